package tests

import (
	"math"
	"slices"
	"testing"

	"loop.example/pixelworks/impl"
)

// forward returns the means, what is left over, and the differences, list by list.
func forward(list []int) []int {
	var means, left, differences []int
	for len(list) > 0 {
		if len(list) == 1 {
			left = list
			break
		}
		means = append(means, floorOf(list[0]+list[1], 2))
		differences = append(differences, list[0]-list[1])
		list = list[2:]
	}
	return slices.Concat(means, left, differences)
}

// within returns count fixed numbers in -top..top that look like random ones.
func within(seed int, count int, top int) []int {
	list := numbers(seed, count, 2*top)
	for i := range list {
		list[i] -= top
	}
	return list
}

// pairLists returns lists of each length from 0 to 64, with small numbers, with all numbers, with the outermost ones, and with equal ones.
func pairLists() [][]int {
	var out [][]int
	for count := range 65 {
		for _, top := range []int{1, 3, 50, 999} {
			out = append(out, within(count+top, count, top))
		}
		for _, n := range []int{0, 1, -1, 2, -7, 998, 999, -998, -999} {
			out = append(out, slices.Repeat([]int{n}, count))
		}
		outermost := make([]int, count)
		for i, n := range numbers(count, count, 3) {
			outermost[i] = []int{-999, 999, -998, 998}[n]
		}
		alternating := slices.Repeat([]int{999, -999}, 33)
		out = append(out, outermost, alternating[:count], alternating[1:count+1])
	}
	return out
}

// goesForward checks that ForwardPairs returns the right list, and returns it.
func goesForward(t *testing.T, list []int) []int {
	t.Helper()
	got := impl.ForwardPairs(list)
	if want := forward(list); !slices.Equal(got, want) || len(got) != len(list) {
		t.Fatalf("ForwardPairs(%v) = %v, not %v", list, got, want)
	}
	return got
}

// goesBack checks that BackPairs returns a list.
func goesBack(t *testing.T, list []int, want []int) {
	t.Helper()
	if got, ok := impl.BackPairs(list); !ok || !slices.Equal(got, want) {
		t.Fatalf("BackPairs(%v) = %v, %v, not %v", list, got, ok, want)
	}
}

// notBack checks that BackPairs fails.
func notBack(t *testing.T, list []int) {
	t.Helper()
	if got, ok := impl.BackPairs(list); ok || len(got) > 0 {
		t.Fatalf("BackPairs(%v) = %v, %v", list, got, ok)
	}
}

// Promise 126: BackPairs of ForwardPairs is the list, and it has as many numbers.
func TestP126PairsCanBeRestored(t *testing.T) {
	for _, list := range pairLists() {
		goesBack(t, goesForward(t, list), list)
	}
}

func TestP126KnownPairs(t *testing.T) {
	for _, c := range []struct {
		list []int
		want []int
	}{
		{nil, nil}, {[]int{}, nil}, {[]int{5}, []int{5}}, {[]int{-999}, []int{-999}}, {[]int{999}, []int{999}},
		{[]int{4, 2}, []int{3, 2}}, {[]int{2, 4}, []int{3, -2}}, {[]int{0, 0}, []int{0, 0}},
		{[]int{1, 0}, []int{0, 1}}, {[]int{0, 1}, []int{0, -1}}, {[]int{-1, 0}, []int{-1, -1}}, {[]int{0, -1}, []int{-1, 1}},
		{[]int{-1, -2}, []int{-2, 1}}, {[]int{-2, -1}, []int{-2, -1}}, {[]int{-3, 2}, []int{-1, -5}}, {[]int{3, -2}, []int{0, 5}},
		{[]int{999, 999}, []int{999, 0}}, {[]int{-999, -999}, []int{-999, 0}}, {[]int{999, -999}, []int{0, 1998}}, {[]int{-999, 999}, []int{0, -1998}},
		{[]int{999, 998}, []int{998, 1}}, {[]int{-998, -999}, []int{-999, 1}}, {[]int{-999, -998}, []int{-999, -1}}, {[]int{999, -998}, []int{0, 1997}}, {[]int{-999, 998}, []int{-1, -1997}},
		{[]int{1, 2, 3}, []int{1, 3, -1}}, {[]int{3, 4, -1, 2, 9}, []int{3, 0, 9, -1, -3}}, {[]int{10, 20, 40, 80}, []int{15, 60, -10, -40}},
		{[]int{1, 2, 3, 4, 5, 6, 7}, []int{1, 3, 5, 7, -1, -1, -1}},
	} {
		if got := goesForward(t, c.list); !slices.Equal(got, c.want) {
			t.Errorf("ForwardPairs(%v) = %v, not %v", c.list, got, c.want)
		}
		goesBack(t, c.want, c.list)
	}
}

func TestP126ForwardPairsFails(t *testing.T) {
	fails := func(list []int) {
		t.Helper()
		if got := impl.ForwardPairs(list); len(got) > 0 {
			t.Errorf("ForwardPairs(%v) = %v", list, got)
		}
	}
	for _, count := range []int{65, 66, 67, 128, 1000} {
		fails(make([]int, count))
		fails(within(count, count, 999))
		notBack(t, make([]int, count))
		notBack(t, forward(within(count, count, 999)))
	}
	for _, n := range []int{-1000, 1000, -1001, 1 << 32, -1 << 32, math.MaxInt, math.MinInt} {
		for _, count := range []int{1, 2, 3, 4, 63, 64} {
			for i := range count {
				list := make([]int, count)
				list[i] = n
				fails(list)
			}
			fails(slices.Repeat([]int{n}, count))
		}
		fails([]int{n, -n})
		fails([]int{n, -999})
		fails([]int{999, n})
	}
}

// eachTwo calls a function for all lists of two numbers.
func eachTwo(visit func(a int, b int)) {
	for a := -999; a <= 999; a++ {
		for b := -999; b <= 999; b++ {
			visit(a, b)
		}
	}
}

// Promise 127: ForwardPairs of what BackPairs returns is the list. All means and differences of two numbers are tried, and all others near them.
func TestP127ListsAreTheirMeansAndDifferences(t *testing.T) {
	const deepest, widest = 1003, 2003
	type two struct {
		a, b  int16
		there bool
	}
	lists := make([][2*widest + 1]two, 2*deepest+1) // by mean and difference
	eachTwo(func(a int, b int) {
		lists[floorOf(a+b, 2)+deepest][a-b+widest] = two{int16(a), int16(b), true}
	})
	for i := range lists {
		for j, want := range lists[i] {
			list := []int{i - deepest, j - widest}
			if !want.there {
				notBack(t, list)
				continue
			}
			goesBack(t, list, []int{int(want.a), int(want.b)})
			if got := impl.ForwardPairs([]int{int(want.a), int(want.b)}); !slices.Equal(got, list) {
				t.Fatalf("ForwardPairs(%v) = %v, not %v", want, got, list)
			}
		}
	}
}

func TestP127LongerLists(t *testing.T) {
	for count := range 65 {
		for _, top := range []int{1, 20, 400} {
			list := within(count*3+top, count, top)
			got, ok := impl.BackPairs(list)
			if !ok || !slices.Equal(impl.ForwardPairs(got), list) || !slices.Equal(forward(got), list) {
				t.Fatalf("BackPairs(%v) = %v, %v", list, got, ok)
			}
		}
	}
}

func TestP127BackPairsFails(t *testing.T) {
	for _, list := range [][]int{
		{1000}, {-1000}, {math.MaxInt}, {math.MinInt}, {1000, 0}, {-1000, 0}, {999, 1}, {999, -1}, {999, 2}, {-999, 2}, {-999, -2}, {998, 3}, {-999, 3}, {-998, 5},
		{0, 1999}, {0, -1999}, {0, 2000}, {0, -2000}, {-1, 1999}, {-1, -1999}, {1, 1998}, {-1, 1998}, {1, -1998}, {500, 1000}, {500, -1000}, {-500, 1000}, {-500, -1000},
		{0, 1000, 0}, {0, -1000, 0}, {0, 0, 1999}, {1000, 0, 0}, {0, 999, 2000}, {999, 999, 1}, {1, 2, 3, 2000}, {1, 2, 2000, 3}, {1000, 0, 0, 0}, {0, 1000, 0, 0},
	} {
		notBack(t, list)
	}
	large := []int{math.MaxInt, math.MaxInt - 1, math.MinInt, math.MinInt + 1, 1 << 62, -1 << 62, 1<<62 + 1, 1 << 63 >> 1, 1 << 32, -1 << 32, math.MaxInt / 2, math.MinInt/2 - 1}
	for _, n := range large {
		for _, other := range append([]int{0, 1, -1, 2, -2, 999, -999}, large...) {
			notBack(t, []int{n, other})
			notBack(t, []int{other, n})
			notBack(t, []int{n, 0, other})
			notBack(t, []int{other, n, 0})
			notBack(t, []int{0, other, 1, n})
		}
	}
	for count := 1; count <= 64; count++ {
		fine := forward(within(count, count, 900))
		for i := range fine {
			for _, n := range []int{4000, -4000, math.MaxInt, math.MinInt} {
				bad := slices.Clone(fine)
				bad[i] = n
				notBack(t, bad)
			}
		}
	}
}

// Promise 128: ForwardPairs of equal numbers has the number for each pair, and zeros behind.
func TestP128EqualNumbersHaveNoDifferences(t *testing.T) {
	for count := range 65 {
		for n := -999; n <= 999; n += 1 + count%7 {
			list := slices.Repeat([]int{n}, count)
			want := slices.Concat(slices.Repeat([]int{n}, count-count/2), make([]int, count/2))
			if got := impl.ForwardPairs(list); !slices.Equal(got, want) {
				t.Fatalf("ForwardPairs of %d times %d = %v", count, n, got)
			}
			goesBack(t, want, list)
		}
	}
}

// halved returns the numbers of an image of half the size, four pixels by four.
func halved(m impl.Image) []int {
	var out []int
	for y := 0; y < m.Height; y += 2 {
		for x := 0; x < m.Width; x += 2 {
			for plane := range m.Planes {
				sum := 0
				for _, pixel := range [][]int{rawPixel(m, x, y), rawPixel(m, x+1, y), rawPixel(m, x, y+1), rawPixel(m, x+1, y+1)} {
					sum += pixel[plane]
				}
				out = append(out, roundHalfUp(sum, 4))
			}
		}
	}
	return out
}

// eachEven calls a function for images with even sides.
func eachEven(visit func(m impl.Image)) {
	for width := 2; width <= 16; width += 2 {
		for height := 2; height <= 16; height += 2 {
			for planes := 1; planes <= 4; planes++ {
				visit(picture(width, height, planes))
				visit(coarse(width, height, planes, 3))
				visit(impl.FillImage(width, height, numbers(width*height, planes, 255)))
			}
		}
	}
}

// Promise 129: HalveImage is ScaleArea to half the width and height.
func TestP129HalvesAreAreas(t *testing.T) {
	eachEven(func(m impl.Image) {
		got := impl.HalveImage(m)
		if !hasShape(got, m.Width/2, m.Height/2, m.Planes) || !slices.Equal(got.Data, halved(m)) {
			t.Fatalf("HalveImage of %v = %v", m, got)
		}
		if !equal(got, impl.ScaleArea(m, m.Width/2, m.Height/2)) {
			t.Fatalf("HalveImage of %v = %v is not ScaleArea", m, got)
		}
	})
}

func TestP129KnownHalves(t *testing.T) {
	for _, c := range []struct {
		m    impl.Image
		want []int
	}{
		{onePlane(2, 0, 0, 0, 0), []int{0}}, {onePlane(2, 0, 0, 0, 1), []int{0}}, {onePlane(2, 0, 1, 1, 0), []int{1}}, {onePlane(2, 1, 1, 0, 1), []int{1}}, {onePlane(2, 1, 1, 1, 1), []int{1}},
		{onePlane(2, 0, 0, 2, 0), []int{1}}, {onePlane(2, 5, 0, 0, 0), []int{1}}, {onePlane(2, 0, 0, 0, 6), []int{2}}, {onePlane(2, 0, 7, 0, 0), []int{2}},
		{onePlane(2, 255, 255, 255, 255), []int{255}}, {onePlane(2, 255, 255, 255, 254), []int{255}}, {onePlane(2, 255, 254, 255, 254), []int{255}},
		{onePlane(2, 254, 254, 255, 254), []int{254}}, {onePlane(2, 255, 0, 0, 255), []int{128}}, {onePlane(2, 1, 2, 3, 4), []int{3}},
		{onePlane(4, 0, 4, 100, 102, 8, 12, 200, 202), []int{6, 151}}, {onePlane(2, 1, 3, 5, 7, 10, 30, 50, 70), []int{4, 40}},
		{onePlane(4, 0, 0, 1, 1, 0, 0, 1, 1, 2, 2, 3, 3, 2, 2, 3, 3), []int{0, 1, 2, 3}},
		{impl.Image{Width: 2, Height: 2, Planes: 2, Data: []int{0, 10, 0, 20, 1, 30, 1, 42}}, []int{1, 26}},
	} {
		if got := impl.HalveImage(c.m); !slices.Equal(got.Data, c.want) {
			t.Errorf("HalveImage of %v = %v, not %v", c.m, got, c.want)
		}
	}
	for sum := range 1021 { // each sum of four numbers
		m := onePlane(2, sum/4, (sum+1)/4, (sum+2)/4, (sum+3)/4)
		if got := impl.HalveImage(m); !slices.Equal(got.Data, []int{(sum + 2) / 4}) {
			t.Errorf("HalveImage of %v = %v", m.Data, got.Data)
		}
	}
}

func TestP129HalveImageFails(t *testing.T) {
	for width := 1; width <= 16; width++ {
		for height := 1; height <= 16; height++ {
			for _, planes := range []int{1, 4} {
				if got := impl.HalveImage(picture(width, height, planes)); isZero(got) != (width%2+height%2 > 0) {
					t.Errorf("HalveImage of %d by %d by %d = %v", width, height, planes, got)
				}
			}
		}
	}
	bad := badPictures()
	for _, m := range []impl.Image{flat(2, 2, 1, 4), flat(2, 4, 3, 24), flat(16, 16, 1, 256)} {
		for _, n := range []int{-1, 256, math.MaxInt, math.MinInt} {
			bad = append(bad, with(m, 0, n), with(m, len(m.Data)-1, n))
		}
	}
	bad = append(bad, flat(2, 2, 1, 3), flat(2, 2, 1, 5), flat(2, 2, 0, 0), flat(2, 2, 5, 20), flat(18, 2, 1, 36), flat(2, 18, 1, 36), flat(32, 32, 1, 1024), flat(0, 0, 1, 0), flat(0, 2, 1, 0), flat(2, 0, 1, 0), flat(-2, -2, 1, 4), flat(-2, 2, 1, 4))
	for _, m := range bad {
		if got := impl.HalveImage(m); !isZero(got) {
			t.Errorf("HalveImage of %d by %d by %d with %d numbers = %v", m.Width, m.Height, m.Planes, len(m.Data), got)
		}
	}
}

// Promise 130: HalveImage of ScaleNearest to twice the width and height is the image.
func TestP130DoubledImagesCanBeHalved(t *testing.T) {
	for width := 1; width <= 8; width++ {
		for height := 1; height <= 8; height++ {
			for planes := 1; planes <= 4; planes++ {
				for _, m := range []impl.Image{picture(width, height, planes), sheetOf(width, width, height, planes), coarse(width, height, planes, 1)} {
					if got := impl.HalveImage(impl.ScaleNearest(m, 2*width, 2*height)); !equal(got, m) {
						t.Fatalf("HalveImage of the doubled image %v = %v", m, got)
					}
				}
			}
		}
	}
}

func TestPairsKeepTheirArguments(t *testing.T) {
	for _, count := range []int{1, 2, 3, 10, 63, 64} {
		list := roomy(within(count, count, 999))
		keeps(t, "ForwardPairs", func() [][]int { return [][]int{impl.ForwardPairs(list)} }, list)
		pairs := roomy(forward(list))
		keeps(t, "BackPairs", func() [][]int {
			out, _ := impl.BackPairs(pairs)
			return [][]int{out}
		}, pairs)
	}
	for _, m := range []impl.Image{picture(2, 2, 1), picture(4, 6, 3)} {
		m.Data = roomy(m.Data)
		keeps(t, "HalveImage", func() [][]int { return [][]int{impl.HalveImage(m).Data} }, m.Data)
	}
}
