package tests

import (
	"math"
	"math/big"
	"slices"
	"testing"

	"loop.example/pixelworks/impl"
)

// twoTones returns an image with two numbers, of which so many pixels have the first one.
func twoTones(width int, height int, a int, b int, count int) impl.Image {
	m := flat(width, height, 1, width*height)
	for i := range m.Data {
		m.Data[i] = b
		if i*7%len(m.Data) < count {
			m.Data[i] = a
		}
	}
	return m
}

// flatTones returns images with one plane and one color.
func flatTones() []impl.Image {
	var out []impl.Image
	for _, n := range []int{0, 1, 2, 127, 128, 254, 255} {
		for _, size := range [][2]int{{1, 1}, {2, 1}, {1, 3}, {5, 4}, {16, 1}, {1, 16}, {16, 16}} {
			out = append(out, impl.FillImage(size[0], size[1], []int{n}))
		}
	}
	return out
}

// pairTones returns images with one plane and two colors.
func pairTones() []impl.Image {
	var out []impl.Image
	for _, pair := range [][2]int{{0, 255}, {0, 1}, {254, 255}, {7, 8}, {127, 128}, {0, 7}, {8, 255}, {100, 3}, {255, 0}, {1, 0}, {200, 199}} {
		out = append(out, onePlane(2, pair[0], pair[1]), onePlane(1, pair[0], pair[1], pair[1]), onePlane(3, pair[0], pair[0], pair[1]))
		for _, count := range []int{1, 2, 63, 128, 129, 250, 254, 255} {
			out = append(out, twoTones(16, 16, pair[0], pair[1], count))
		}
	}
	return out
}

// mixedTones returns images with one plane and more than two colors.
func mixedTones() []impl.Image {
	all := flat(16, 16, 1, 256) // every number once
	for i := range all.Data {
		all.Data[i] = i * 77 % 256
	}
	out := []impl.Image{
		all, impl.MirrorImage(all), smooth(16, 16, 1), smooth(7, 5, 1), onePlane(3, 0, 1, 2), onePlane(3, 255, 254, 253),
		onePlane(4, 10, 10, 20, 200), onePlane(2, 0, 255, 128, 0), onePlane(1, 3, 1, 2), onePlane(5, 0, 2, 3, 3, 5),
		with(impl.FillImage(16, 16, []int{255}), 9, 254), with(with(impl.FillImage(16, 16, []int{0}), 9, 255), 200, 1),
	}
	for _, size := range [][2]int{{3, 1}, {1, 4}, {3, 3}, {7, 2}, {16, 1}, {1, 16}, {8, 9}, {15, 16}, {16, 16}} {
		out = append(out, picture(size[0], size[1], 1), sheetOf(size[0], size[0], size[1], 1))
		for _, top := range []int{2, 3, 7, 50} {
			out = append(out, withTones(size[0], size[1], top, 0), withTones(size[0], size[1], top, 255-top))
		}
	}
	return out
}

// withTones returns an image with numbers from a lowest one to another one that is higher by top, both of them among its numbers.
func withTones(width int, height int, top int, lowest int) impl.Image {
	m := coarse(width, height, 1, top)
	copy(m.Data, []int{top, 0, 1})
	for i := range m.Data {
		m.Data[i] += lowest
	}
	return m
}

// toneImages returns images with one plane: of one color, of two, and of more.
func toneImages() []impl.Image {
	return slices.Concat(flatTones(), pairTones(), mixedTones())
}

// eachNotPlane calls a function for images that are not valid, or have several planes.
func eachNotPlane(visit func(m impl.Image)) {
	for _, m := range badPictures() {
		visit(m)
	}
	for _, m := range pictures() {
		if m.Planes > 1 {
			visit(m)
		}
	}
	for planes := 2; planes <= 4; planes++ {
		visit(impl.FillImage(2, 2, make([]int, planes)))
		visit(impl.FillImage(16, 16, make([]int, planes)))
	}
	visit(with(onePlane(3, 1, 2, 3), 1, 256))
	visit(with(onePlane(3, 1, 2, 3), 1, -1))
}

// isFlat reports whether all numbers are equal.
func isFlat(m impl.Image) bool {
	return slices.Min(m.Data) == slices.Max(m.Data)
}

// countOf returns how many numbers a function picks.
func countOf(list []int, picks func(n int) bool) int {
	count := 0
	for _, n := range list {
		if picks(n) {
			count++
		}
	}
	return count
}

// histogram returns HistogramOf, which must not fail.
func histogram(t *testing.T, m impl.Image) []int {
	t.Helper()
	got := impl.HistogramOf(m)
	if len(got) != 256 {
		t.Fatalf("HistogramOf of %d by %d has %d numbers", m.Width, m.Height, len(got))
	}
	return got
}

// Promise 108: the numbers of HistogramOf add up to the number of pixels, and InvertImage reverses them.
func TestP108HistogramsCountAllPixels(t *testing.T) {
	for _, m := range toneImages() {
		got := histogram(t, m)
		sum := 0
		for n, count := range got {
			sum += count
			if want := countOf(m.Data, func(other int) bool { return other == n }); count != want {
				t.Fatalf("HistogramOf of %v has %d at %d, not %d", m, count, n, want)
			}
		}
		if sum != m.Width*m.Height {
			t.Fatalf("HistogramOf of %v adds up to %d", m, sum)
		}
		slices.Reverse(got)
		if inverted := histogram(t, impl.InvertImage(m)); !slices.Equal(inverted, got) {
			t.Fatalf("HistogramOf of the inverted image = %v, not %v", inverted, got)
		}
	}
}

func TestP108HistogramOfFails(t *testing.T) {
	eachNotPlane(func(m impl.Image) {
		if got := impl.HistogramOf(m); len(got) > 0 {
			t.Errorf("HistogramOf of %d by %d by %d = %v", m.Width, m.Height, m.Planes, got)
		}
	})
}

// Promise 109: HistogramOf of a turned or mirrored image is the same.
func TestP109TurningKeepsHistograms(t *testing.T) {
	for _, m := range toneImages() {
		want := histogram(t, m)
		for k := range 4 {
			turned := impl.TurnImage(m, k)
			for _, other := range []impl.Image{turned, impl.MirrorImage(turned)} {
				if got := histogram(t, other); !slices.Equal(got, want) {
					t.Fatalf("HistogramOf of %v turned by %d = %v, not %v", m, k, got, want)
				}
			}
		}
	}
}

// mapOf returns a list that a function tells.
func mapOf(number func(n int) int) []int {
	var out []int
	for n := range 256 {
		out = append(out, number(n))
	}
	return out
}

// same and opposite tell the lists of all numbers, in order and in reverse order.
func same(n int) int     { return n }
func opposite(n int) int { return 255 - n }

// toneMaps returns lists that replace numbers.
func toneMaps() [][]int {
	return [][]int{
		mapOf(same), mapOf(opposite), mapOf(func(n int) int { return 0 }), mapOf(func(n int) int { return 255 }),
		mapOf(func(n int) int { return n / 2 }), mapOf(func(n int) int { return n * 77 % 256 }), mapOf(func(n int) int { return n / 128 * 255 }),
		mapOf(func(n int) int { return min(n, 1) }), mapOf(func(n int) int { return n / 255 }), numbers(1, 256, 255), numbers(2, 256, 3),
	}
}

// mappedImage returns MapImage, which must not fail, and checks all of its numbers.
func mappedImage(t *testing.T, m impl.Image, list []int) impl.Image {
	t.Helper()
	out, ok := impl.MapImage(m, list)
	if !ok || !hasShape(out, m.Width, m.Height, m.Planes) {
		t.Fatalf("MapImage of %d by %d by %d fails", m.Width, m.Height, m.Planes)
	}
	for i, n := range m.Data {
		if out.Data[i] != list[n] {
			t.Fatalf("MapImage of %d by %d by %d makes %d of %d, not %d", m.Width, m.Height, m.Planes, out.Data[i], n, list[n])
		}
	}
	return out
}

// mapImages returns images with one plane and with more, with all numbers among them.
func mapImages() []impl.Image {
	return slices.Concat(pictures(), mixedTones()[:6], flatTones()[:7], []impl.Image{smooth(16, 16, 4), impl.FillImage(16, 16, []int{0, 255, 1})})
}

// Promise 110: MapImage of MapImage is MapImage with the composed list, and the list of all numbers in order changes nothing.
func TestP110MapsFollowEachOther(t *testing.T) {
	for _, m := range mapImages() {
		for _, first := range toneMaps() {
			once := mappedImage(t, m, first)
			for _, second := range toneMaps() {
				composed := mapOf(func(n int) int { return second[first[n]] })
				if got := mappedImage(t, once, second); !equal(got, mappedImage(t, m, composed)) {
					t.Fatalf("MapImage twice of %d by %d by %d is not that with the composed list", m.Width, m.Height, m.Planes)
				}
			}
		}
		if got := mappedImage(t, m, mapOf(same)); !equal(got, m) {
			t.Fatalf("MapImage of %d by %d by %d with all numbers in order changes it", m.Width, m.Height, m.Planes)
		}
	}
}

// notMapped checks that MapImage fails.
func notMapped(t *testing.T, what string, m impl.Image, list []int) {
	t.Helper()
	if out, ok := impl.MapImage(m, list); ok || !isZero(out) {
		t.Errorf("MapImage of %d by %d by %d with %s = %v, %v", m.Width, m.Height, m.Planes, what, out, ok)
	}
}

func TestP110BadListsFail(t *testing.T) {
	for _, m := range append(pictures(), impl.FillImage(2, 2, []int{0}), impl.FillImage(2, 2, []int{255, 255})) {
		for _, count := range []int{0, 1, 16, 254, 255, 257, 258, 512, 1000} {
			notMapped(t, "a list of another length", m, make([]int, count))
		}
		notMapped(t, "no list", m, nil)
		notMapped(t, "all numbers but the last one", m, mapOf(same)[:255])
		notMapped(t, "one number more", m, append(mapOf(same), 255))
		for _, at := range []int{0, 1, 128, 254, 255} {
			for _, n := range []int{-1, 256, -255, 1 << 32, math.MaxInt, math.MinInt} {
				list := mapOf(same)
				list[at] = n
				notMapped(t, "a wrong number", m, list)
			}
		}
	}
}

func TestP110BadImagesFail(t *testing.T) {
	for _, bad := range badPictures() {
		notMapped(t, "all numbers in order", bad, mapOf(same))
		notMapped(t, "a list of 257 numbers", bad, append(mapOf(same), 0))
		notMapped(t, "no list", bad, nil)
	}
}

// Promise 111: MapImage with the list of all numbers in reverse order is InvertImage.
func TestP111InvertingIsAMap(t *testing.T) {
	for _, m := range slices.Concat(mapImages(), toneImages()) {
		if got := mappedImage(t, m, mapOf(opposite)); !equal(got, impl.InvertImage(m)) {
			t.Fatalf("MapImage of %d by %d by %d with all numbers in reverse order = %v", m.Width, m.Height, m.Planes, got)
		}
	}
}

// Promise 153: HistogramOf MapImage has at each number the counts of all numbers that become it.
func TestP153MapsMoveCounts(t *testing.T) {
	for _, m := range toneImages() {
		counts := histogram(t, m)
		for _, list := range toneMaps() {
			want := make([]int, 256)
			for n, count := range counts {
				want[list[n]] += count
			}
			if got := histogram(t, mappedImage(t, m, list)); !slices.Equal(got, want) {
				t.Fatalf("HistogramOf MapImage of %v = %v, not %v", m, got, want)
			}
		}
	}
}

// equalized returns EqualizeImage, which must not fail, and checks all of its numbers.
func equalized(t *testing.T, m impl.Image) impl.Image {
	t.Helper()
	out := impl.EqualizeImage(m)
	if !hasShape(out, m.Width, m.Height, 1) {
		t.Fatalf("EqualizeImage of %v = %v", m, out)
	}
	greatest := slices.Max(m.Data)
	others := countOf(m.Data, func(n int) bool { return n != greatest })
	for i, n := range m.Data {
		want := n
		if others > 0 {
			want = floorOf(255*countOf(m.Data, func(other int) bool { return other < n }), others)
		}
		if out.Data[i] != want {
			t.Fatalf("EqualizeImage of %v makes %d of %d, not %d", m, out.Data[i], n, want)
		}
	}
	return out
}

// Promise 112: the least number of EqualizeImage is 0 and the greatest one is 255, unless all pixels are equal, and the order of numbers is kept.
func TestP112EqualizedImagesUseAllRoom(t *testing.T) {
	for _, m := range toneImages() {
		got := equalized(t, m)
		if isFlat(m) {
			if !equal(got, m) {
				t.Fatalf("EqualizeImage of one color %v = %v", m, got)
			}
			continue
		}
		if slices.Min(got.Data) != 0 || slices.Max(got.Data) != 255 {
			t.Fatalf("EqualizeImage of %v = %v", m, got)
		}
		for i, n := range m.Data {
			for j, other := range m.Data {
				if n < other && got.Data[i] >= got.Data[j] || n == other && got.Data[i] != got.Data[j] {
					t.Fatalf("EqualizeImage of %v does not keep the order: %v", m, got)
				}
			}
		}
	}
}

func TestP112KnownEqualizedImages(t *testing.T) {
	for _, c := range []struct {
		m    impl.Image
		want []int
	}{
		{onePlane(1, 7), []int{7}},
		{onePlane(2, 255, 255), []int{255, 255}},
		{onePlane(2, 0, 0), []int{0, 0}},
		{onePlane(2, 7, 8), []int{0, 255}},
		{onePlane(4, 10, 10, 20, 200), []int{0, 0, 170, 255}},
		{onePlane(2, 200, 10, 20, 10), []int{255, 0, 170, 0}},
		{onePlane(4, 10, 20, 20, 200), []int{0, 85, 85, 255}},
		{onePlane(5, 1, 2, 3, 4, 5), []int{0, 63, 127, 191, 255}}, // quotients are rounded down
		{onePlane(3, 254, 0, 255), []int{127, 0, 255}},
		{onePlane(4, 5, 5, 5, 4), []int{255, 255, 255, 0}},
		{onePlane(8, 0, 0, 0, 0, 0, 0, 1, 2), []int{0, 0, 0, 0, 0, 0, 218, 255}}, // 218.57
	} {
		if got := impl.EqualizeImage(c.m); !slices.Equal(got.Data, c.want) {
			t.Errorf("EqualizeImage of %v = %v, not %v", c.m.Data, got.Data, c.want)
		}
	}
}

func TestP112EqualizeImageFails(t *testing.T) {
	eachNotPlane(func(m impl.Image) {
		if got := impl.EqualizeImage(m); !isZero(got) {
			t.Errorf("EqualizeImage of %d by %d by %d = %v", m.Width, m.Height, m.Planes, got)
		}
	})
}

// Promise 113: EqualizeImage of an image with two different numbers has only 0 and 255, and equalizing again changes nothing then.
func TestP113TwoColorsBecomeBlackAndWhite(t *testing.T) {
	for _, m := range pairTones() {
		got, lowest := equalized(t, m), slices.Min(m.Data)
		for i, n := range m.Data {
			if n == lowest && got.Data[i] != 0 || n != lowest && got.Data[i] != 255 {
				t.Fatalf("EqualizeImage of two colors %v = %v", m, got)
			}
		}
		if again := equalized(t, got); !equal(again, got) {
			t.Fatalf("EqualizeImage twice of two colors %v = %v", m, again)
		}
	}
}

// divided returns how well a threshold divides numbers, and whether there are some on both sides of it.
func divided(list []int, threshold int) (*big.Rat, bool) {
	var a, b, x, y int64
	for _, n := range list {
		if n < threshold {
			a, x = a+1, x+int64(n)
		} else {
			b, y = b+1, y+int64(n)
		}
	}
	if a == 0 || b == 0 {
		return nil, false
	}
	difference := big.NewInt(a*y - b*x)
	return new(big.Rat).SetFrac(difference.Mul(difference, difference), big.NewInt(a*b)), true
}

// bestThreshold returns the first threshold that divides numbers best, or 0 if none does.
func bestThreshold(list []int) int {
	best := 0
	var greatest *big.Rat
	for threshold := 1; threshold <= 255; threshold++ {
		if value, ok := divided(list, threshold); ok && (best == 0 || value.Cmp(greatest) > 0) {
			best, greatest = threshold, value
		}
	}
	return best
}

// threshold returns ThresholdOf, and checks it.
func threshold(t *testing.T, m impl.Image) int {
	t.Helper()
	got := impl.ThresholdOf(m)
	if want := bestThreshold(m.Data); got != want {
		t.Fatalf("ThresholdOf of %v = %d, not %d", m, got, want)
	}
	return got
}

// Promise 114: there are pixels less than ThresholdOf, and others, unless all pixels are equal.
func TestP114ThresholdsDivide(t *testing.T) {
	for _, m := range toneImages() {
		got := threshold(t, m)
		less := countOf(m.Data, func(n int) bool { return n < got })
		if isFlat(m) && got != 0 || !isFlat(m) && (less == 0 || less == len(m.Data)) {
			t.Fatalf("ThresholdOf of %v = %d, with %d pixels less than it", m, got, less)
		}
	}
}

func TestP114ManyThresholds(t *testing.T) {
	for seed := range 400 {
		top, size := []int{2, 4, 9, 30, 255}[seed%5], 2+seed%7
		threshold(t, onePlane(size, numbers(seed, size, top)...))
	}
	for i := range 8 * 8 * 8 * 8 { // all images of four pixels with numbers in 0..7
		threshold(t, onePlane(2, i&7, i>>3&7, i>>6&7, i>>9))
	}
}

func TestP114KnownThresholds(t *testing.T) {
	for _, c := range []struct {
		what string
		list []int
		want int
	}{
		{"one pixel", []int{7}, 0},
		{"one color", []int{7, 7, 7}, 0},
		{"black", []int{0, 0}, 0},
		{"white", []int{255, 255}, 0},
		{"the document's place", []int{10, 10, 20, 200}, 21},
		{"neighbours", []int{7, 8}, 8},
		{"the least neighbours", []int{0, 1}, 1},
		{"the greatest neighbours", []int{255, 254}, 255},
		{"black and white", []int{255, 0}, 1},
		{"two places that are equally good", []int{0, 1, 2}, 1},
		{"two places far apart", []int{0, 100, 200}, 1},
		{"two places, the numbers in another order", []int{200, 0, 100}, 1},
		{"the upper place is better", []int{0, 99, 200}, 100},
		{"the lower place is better", []int{0, 101, 200}, 1},
		{"three neighbours", []int{253, 254, 255}, 254},
		{"more below", []int{0, 0, 0, 1, 2, 2}, 1},
		{"more above", []int{0, 0, 1, 2, 2, 2}, 2},
		{"many below", []int{0, 0, 0, 0, 0, 0, 0, 9, 10, 20}, 1},
		{"quotients that differ by less than 1", []int{0, 2, 3, 3, 5}, 3},
		{"quotients that differ by less than 1, farther up", []int{3, 5, 6, 7, 7}, 6},
	} {
		m := onePlane(len(c.list), c.list...)
		if got := threshold(t, m); got != c.want {
			t.Errorf("ThresholdOf of %s %v = %d, not %d", c.what, c.list, got, c.want)
		}
		if got := threshold(t, impl.TransposeImage(m)); got != c.want {
			t.Errorf("ThresholdOf of %s in a column = %d, not %d", c.what, got, c.want)
		}
	}
}

func TestP114ThresholdOfFails(t *testing.T) {
	eachNotPlane(func(m impl.Image) {
		if got := impl.ThresholdOf(m); got != -1 {
			t.Errorf("ThresholdOf of %d by %d by %d = %d", m.Width, m.Height, m.Planes, got)
		}
	})
}

// Promise 115: ThresholdOf an image with two different numbers is the smaller one plus 1.
func TestP115TwoColorsAreDividedBetweenThem(t *testing.T) {
	for _, m := range pairTones() {
		if got := threshold(t, m); got != slices.Min(m.Data)+1 {
			t.Fatalf("ThresholdOf of two colors %v = %d", m, got)
		}
	}
	for low := range 255 {
		for high := low + 1; high < 256; high += 1 + (low+high)%5 {
			for _, list := range [][]int{{low, high}, {high, low, low}, {high, high, high, low}} {
				if got := impl.ThresholdOf(onePlane(1, list...)); got != low+1 {
					t.Fatalf("ThresholdOf of %v = %d", list, got)
				}
			}
		}
	}
}

func TestTonesKeepTheirArguments(t *testing.T) {
	colors, list := picture(5, 3, 2), roomy(mapOf(opposite))
	colors.Data = roomy(colors.Data)
	for _, m := range []impl.Image{picture(5, 3, 1), impl.FillImage(5, 3, []int{9}), onePlane(2, 3, 4)} {
		m.Data = roomy(m.Data)
		old := slices.Clone(m.Data)
		keeps(t, "HistogramOf", func() [][]int { return [][]int{impl.HistogramOf(m)} }, m.Data)
		keeps(t, "EqualizeImage", func() [][]int { return [][]int{impl.EqualizeImage(m).Data} }, m.Data)
		for _, image := range []impl.Image{m, colors} {
			keeps(t, "MapImage", func() [][]int {
				out, _ := impl.MapImage(image, list)
				return [][]int{out.Data}
			}, image.Data, list)
		}
		first := impl.ThresholdOf(m)
		if first != impl.ThresholdOf(m) || !slices.Equal(m.Data, old) {
			t.Errorf("ThresholdOf changed its argument")
		}
	}
}
