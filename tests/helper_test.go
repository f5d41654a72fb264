package tests

import (
	"math"
	"slices"
	"testing"

	"loop.example/pixelworks/impl"
)

// spoiled is written over memory that a call must not share.
const spoiled = -77

// numbers returns count fixed numbers in 0..top that look like random ones.
func numbers(seed int, count int, top int) []int {
	list := make([]int, count)
	state := uint32(seed)*2654435761 + 12345
	for i := range list {
		state = state*1664525 + 1013904223
		list[i] = int(state>>8) % (top + 1)
	}
	return list
}

// picture returns a valid image with fixed numbers, 0 and 255 among them.
func picture(width int, height int, planes int) impl.Image {
	data := numbers(width*289+height*17+planes, width*height*planes, 255)
	data[0] = 255
	data[len(data)-1] = 0
	return impl.Image{Width: width, Height: height, Planes: planes, Data: data}
}

// pictures returns valid images of many shapes.
func pictures() []impl.Image {
	return []impl.Image{
		picture(1, 1, 1), picture(1, 1, 4), picture(2, 1, 1), picture(1, 3, 2), picture(3, 2, 1),
		picture(2, 5, 3), picture(4, 4, 1), picture(5, 3, 4), picture(16, 1, 2), picture(1, 16, 1),
		picture(7, 16, 2), picture(16, 9, 3), picture(16, 16, 1), picture(16, 16, 4),
	}
}

// flat returns an image with zeros, of whatever shape.
func flat(width int, height int, planes int, count int) impl.Image {
	return impl.Image{Width: width, Height: height, Planes: planes, Data: make([]int, count)}
}

// with returns an image with one number replaced.
func with(m impl.Image, i int, n int) impl.Image {
	m.Data = slices.Clone(m.Data)
	m.Data[i] = n
	return m
}

// badPictures returns images that are not valid.
func badPictures() []impl.Image {
	return []impl.Image{
		{}, {Data: []int{0}}, flat(0, 1, 1, 0), flat(1, 0, 1, 0), flat(1, 1, 0, 0),
		flat(-1, -1, 1, 1), flat(-1, 1, -1, 1), flat(1, -1, -1, 1),
		flat(17, 1, 1, 17), flat(1, 17, 1, 17), flat(1, 1, 5, 5), flat(17, 17, 4, 17*17*4),
		flat(3, 2, 1, 5), flat(3, 2, 1, 7), flat(3, 2, 2, 6), flat(1, 1, 1, 0),
		with(flat(3, 2, 1, 6), 0, 256), with(flat(3, 2, 1, 6), 0, -1),
		with(flat(3, 2, 1, 6), 5, 256), with(flat(3, 2, 1, 6), 5, -1),
		with(flat(16, 16, 4, 1024), 1023, math.MaxInt), with(flat(16, 16, 4, 1024), 1023, math.MinInt),
		flat(math.MaxInt, math.MaxInt, 1, 1), flat(math.MinInt, math.MinInt, 4, 0), flat(1<<32, 1<<32, 1, 0),
	}
}

// equal reports whether two images are the same.
func equal(a impl.Image, b impl.Image) bool {
	return a.Width == b.Width && a.Height == b.Height && a.Planes == b.Planes && slices.Equal(a.Data, b.Data)
}

// isZero reports whether an image is the zero value.
func isZero(m impl.Image) bool {
	return equal(m, impl.Image{})
}

// rawPixel returns the numbers of a pixel, read from Data.
func rawPixel(m impl.Image, x int, y int) []int {
	first := (y*m.Width + x) * m.Planes
	return m.Data[first : first+m.Planes]
}

// eachPlace calls a function for every pixel of an image.
func eachPlace(m impl.Image, visit func(x int, y int)) {
	for y := range m.Height {
		for x := range m.Width {
			visit(x, y)
		}
	}
}

// roomy returns a copy of a list with spare capacity that a call must not use.
func roomy(list []int) []int {
	out := make([]int, len(list), len(list)+8)
	copy(out, list)
	for i := len(list); i < cap(out); i++ {
		out[:cap(out)][i] = spoiled - 1
	}
	return out
}

// keeps calls a function that returns slices, writes over all of their memory,
// and fails if that, or the call itself, has changed an argument.
func keeps(t *testing.T, what string, call func() [][]int, arguments ...[]int) {
	t.Helper()
	var old [][]int
	for _, list := range arguments {
		old = append(old, slices.Clone(list[:cap(list)]))
	}
	first := call()
	want := clones(first)
	second := call()
	for _, list := range first {
		if len(list) == 0 {
			t.Errorf("%s returned nothing to look at", what)
		}
		for i := range list[:cap(list)] {
			list[:cap(list)][i] = spoiled
		}
	}
	for i, list := range arguments {
		if !slices.Equal(list[:cap(list)], old[i]) {
			t.Errorf("%s changed or shares argument %d", what, i)
		}
	}
	for i := range second {
		if !slices.Equal(second[i], want[i]) {
			t.Errorf("%s shares memory with an earlier call, or differs from it", what)
		}
	}
}

// apart fails if slices of one result share memory: it writes the number of
// each slice over all of its memory, and looks whether all of it is left.
func apart(t *testing.T, what string, lists [][]int) {
	t.Helper()
	for i, list := range lists {
		for j := range list[:cap(list)] {
			list[:cap(list)][j] = i
		}
	}
	for i, list := range lists {
		for _, n := range list[:cap(list)] {
			if n != i {
				t.Fatalf("%s: slices %d and %d share memory", what, i, n)
			}
		}
	}
}

// roundHalfUp returns a quotient rounded to the nearest number, halves up.
func roundHalfUp(n int, divisor int) int {
	return int(math.Floor(float64(n)/float64(divisor) + 0.5))
}

// floorOf returns a quotient rounded down.
func floorOf(n int, divisor int) int {
	return int(math.Floor(float64(n) / float64(divisor)))
}

// planeNumbers returns the numbers of one plane of an image.
func planeNumbers(m impl.Image, plane int) []int {
	var out []int
	for i := plane; i < len(m.Data); i += m.Planes {
		out = append(out, m.Data[i])
	}
	return out
}

// onePlane returns an image with one plane whose height follows from its numbers.
func onePlane(width int, data ...int) impl.Image {
	return impl.Image{Width: width, Height: len(data) / width, Planes: 1, Data: data}
}

// clones returns copies of lists.
func clones(lists [][]int) [][]int {
	var out [][]int
	for _, list := range lists {
		out = append(out, slices.Clone(list))
	}
	return out
}
