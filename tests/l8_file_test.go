package tests

import (
	"math"
	"slices"
	"testing"

	"loop.example/pixelworks/impl"
)

// checkSums returns the check of bytes, with sums that are reduced only at the end.
func checkSums(list []int) int {
	x, y := 1, 0
	for _, n := range list {
		x += n
		y += x
	}
	return 256*(y%251) + x%251
}

// sealed returns bytes with their check behind them.
func sealed(bytes []int) []int {
	check := checkSums(bytes)
	return append(slices.Clone(bytes), check/256, check%256)
}

// fileOf returns the file with some tokens behind a head.
func fileOf(width int, height int, planes int, tokens []impl.Token) []int {
	bytes := []int{'p', 'x', width, height, planes}
	for _, token := range tokens {
		if token.Length == 0 {
			bytes = append(bytes, 0, token.Byte)
		} else {
			bytes = append(bytes, token.Length, token.Back)
		}
	}
	return sealed(bytes)
}

// filteredBy returns the rows of an image, each filtered by a kind that is chosen by its number.
func filteredBy(m impl.Image, kindOf func(y int) int) []int {
	size := m.Width * m.Planes
	before := make([]int, size)
	var out []int
	for y := range m.Height {
		row := m.Data[y*size : (y+1)*size]
		out = append(out, kindOf(y))
		out = append(out, impl.FilterRow(kindOf(y), row, before, m.Planes)...)
		before = row
	}
	return out
}

// bestRows returns the rows of an image, filtered by the best kinds.
func bestRows(m impl.Image) []int {
	return filteredBy(m, func(y int) int {
		size := m.Width * m.Planes
		before := make([]int, size)
		if y > 0 {
			before = m.Data[(y-1)*size : y*size]
		}
		return impl.BestFilter(m.Data[y*size:(y+1)*size], before, m.Planes)
	})
}

// smooth returns an image with slopes, which all filters can improve.
func smooth(width int, height int, planes int) impl.Image {
	m := flat(width, height, planes, width*height*planes)
	eachPlace(m, func(x int, y int) {
		for plane := range planes {
			m.Data[(y*width+x)*planes+plane] = (7*x + 5*y*(plane+1) + x*y%3) % 256
		}
	})
	return m
}

// fileImages returns images whose files are not too long.
func fileImages() []impl.Image {
	out := []impl.Image{flat(16, 16, 4, 1024), smooth(16, 16, 1), smooth(5, 4, 3), smooth(16, 2, 4), impl.FillImage(16, 16, []int{1, 2, 3, 4})}
	for _, m := range pictures() {
		if m.Height*(1+m.Width*m.Planes) <= 500 {
			out = append(out, m)
		}
	}
	return out
}

func TestCheckOf(t *testing.T) {
	for _, list := range byteLists() {
		if got := impl.CheckOf(list); got != checkSums(list) {
			t.Fatalf("CheckOf(%v) = %d, not %d", list, got, checkSums(list))
		}
	}
	for _, c := range []struct {
		list []int
		want int
	}{
		{nil, 1}, {[]int{0}, 256 + 1}, {[]int{1, 2}, 256*6 + 4}, {[]int{249}, 256*250 + 250}, {[]int{250}, 0}, {[]int{251}, 256 + 1},
		{[]int{255}, 256*5 + 5}, {[]int{100, 149}, 256*100 + 250}, {[]int{100, 150}, 256*101 + 0}, {make([]int, 1200), 256*(1200%251) + 1},
	} {
		if got := impl.CheckOf(c.list); got != c.want {
			t.Errorf("CheckOf(%v) = %d, not %d", c.list, got, c.want)
		}
	}
	for _, bad := range notBytes() {
		if got := impl.CheckOf(bad); got != -1 {
			t.Errorf("CheckOf(%v) = %d", bad, got)
		}
	}
}

// Promise 36: CheckOf changes when one byte is replaced by one that is greater or less by 1.
func TestP36ChecksSeeSingleChanges(t *testing.T) {
	for _, list := range byteLists() {
		check := impl.CheckOf(list)
		changed := slices.Clone(list)
		for i := 0; i < len(list); i += 1 + len(list)/100 {
			for _, n := range []int{list[i] - 1, list[i] + 1} {
				changed[i] = n
				got := impl.CheckOf(changed)
				if got == check || (got == -1) != (n < 0 || n > 255) {
					t.Fatalf("CheckOf %d bytes does not see that byte %d, %d, is %d", len(list), i, list[i], n)
				}
			}
			changed[i] = list[i]
		}
	}
}

// Promise 37: UnfilterImage of FilterImage is the image.
func TestP37FilteredImagesCanBeRestored(t *testing.T) {
	for _, m := range append(pictures(), fileImages()...) {
		list := impl.FilterImage(m)
		if !slices.Equal(list, bestRows(m)) {
			t.Fatalf("FilterImage of %d by %d by %d = %v", m.Width, m.Height, m.Planes, list)
		}
		if got, ok := impl.UnfilterImage(m.Width, m.Height, m.Planes, list); !ok || !equal(got, m) {
			t.Fatalf("UnfilterImage of %d by %d by %d = %v, %v", m.Width, m.Height, m.Planes, got, ok)
		}
	}
	for i, m := range badPictures() {
		if got := impl.FilterImage(m); len(got) > 0 {
			t.Errorf("FilterImage of bad picture %d = %v", i, got)
		}
	}
}

func TestP37FilterImageOfKnownImages(t *testing.T) {
	for _, c := range []struct {
		m    impl.Image
		want []int
	}{
		{impl.Image{Width: 1, Height: 1, Planes: 1, Data: []int{9}}, []int{0, 9}},
		{impl.Image{Width: 1, Height: 2, Planes: 1, Data: []int{90, 90}}, []int{0, 90, 2, 0}},
		{impl.Image{Width: 2, Height: 1, Planes: 2, Data: []int{90, 10, 90, 10}}, []int{1, 90, 10, 0, 0}}, // the step is 2
		{impl.Image{Width: 3, Height: 2, Planes: 1, Data: []int{10, 10, 40, 10, 20, 30}}, []int{1, 10, 0, 30, 3, 5, 10, 0}},
	} {
		if got := impl.FilterImage(c.m); !slices.Equal(got, c.want) {
			t.Errorf("FilterImage(%v) = %v, not %v", c.m, got, c.want)
		}
	}
}

// notUnfiltered fails unless UnfilterImage fails.
func notUnfiltered(t *testing.T, what string, width int, height int, planes int, list []int) {
	t.Helper()
	if m, ok := impl.UnfilterImage(width, height, planes, list); ok || !isZero(m) {
		t.Errorf("UnfilterImage of %d by %d by %d with %s = %v, %v", width, height, planes, what, m, ok)
	}
}

// Promise 38: FilterImage of what UnfilterImage returns leads to the same image.
func TestP38AllFiltersLeadToAnImage(t *testing.T) {
	for seed, m := range append(pictures(), fileImages()...) {
		for kind := range 5 {
			for _, kindOf := range []func(y int) int{func(y int) int { return kind }, func(y int) int { return (y + kind) % 5 }} {
				if got, ok := impl.UnfilterImage(m.Width, m.Height, m.Planes, filteredBy(m, kindOf)); !ok || !equal(got, m) {
					t.Fatalf("UnfilterImage of %d by %d by %d, filtered by other kinds = %v, %v", m.Width, m.Height, m.Planes, got, ok)
				}
			}
		}
		size := 1 + m.Width*m.Planes
		list := numbers(seed, m.Height*size, 255)
		for y := range m.Height {
			list[y*size] %= 5
		}
		u, ok := impl.UnfilterImage(m.Width, m.Height, m.Planes, list)
		again, okAgain := impl.UnfilterImage(m.Width, m.Height, m.Planes, impl.FilterImage(u))
		if !ok || !okAgain || !impl.ValidImage(u) || !equal(u, again) {
			t.Fatalf("UnfilterImage(%d, %d, %d, %v) = %v, %v", m.Width, m.Height, m.Planes, list, u, ok)
		}
	}
}

func TestP38UnfilterImageFails(t *testing.T) {
	for _, m := range pictures() {
		fails := func(what string, list []int) {
			t.Helper()
			notUnfiltered(t, what, m.Width, m.Height, m.Planes, list)
		}
		list := impl.FilterImage(m)
		size := 1 + m.Width*m.Planes
		fails("no numbers", nil)
		fails("one number less", list[:len(list)-1])
		fails("one number more", append(slices.Clone(list), 0))
		fails("one row less", list[size:])
		fails("one row more", append(slices.Clone(list), make([]int, size)...))
		change := func(what string, i int, values ...int) {
			t.Helper()
			for _, n := range values {
				bad := slices.Clone(list)
				bad[i] = n
				fails(what, bad)
			}
		}
		change("another kind", 0, -1, 5, 255, 256, math.MaxInt, math.MinInt)
		change("another kind in the last row", len(list)-size, -1, 5, 255, 256, math.MaxInt, math.MinInt)
		change("a bad first number", 1, -1, 256, math.MaxInt, math.MinInt)
		change("a bad last number", len(list)-1, -1, 256, math.MaxInt, math.MinInt)
	}
	for _, n := range []int{0, -1, 17, math.MaxInt, math.MinInt} {
		for _, list := range [][]int{nil, {0}, {0, 0}, make([]int, 34), make([]int, 18)} {
			notUnfiltered(t, "another width", n, 1, 1, list)
			notUnfiltered(t, "another height", 1, n, 1, list)
			notUnfiltered(t, "other sides", n, n, 1, list)
		}
	}
	for _, n := range []int{0, -1, 5, math.MaxInt, math.MinInt} {
		for _, list := range [][]int{nil, {0}, {0, 0}, make([]int, 6)} {
			notUnfiltered(t, "other planes", 1, 1, n, list)
		}
	}
}

// notRead fails unless ReadImage fails.
func notRead(t *testing.T, what string, list []int) {
	t.Helper()
	if m, ok := impl.ReadImage(list); ok || !isZero(m) {
		t.Errorf("ReadImage of %d bytes with %s = %v, %v", len(list), what, m, ok)
	}
}

// written returns the file of an image, which must be there.
func written(t *testing.T, m impl.Image) []int {
	t.Helper()
	list, ok := impl.WriteImage(m)
	if !ok {
		t.Fatalf("WriteImage of %d by %d by %d fails", m.Width, m.Height, m.Planes)
	}
	return list
}

// Promise 39: ReadImage of WriteImage is the image, bit by bit.
func TestP39WhatIsWrittenIsReadBack(t *testing.T) {
	for _, m := range fileImages() {
		list := written(t, m)
		if want := fileOf(m.Width, m.Height, m.Planes, impl.BestTokens(bestRows(m))); !slices.Equal(list, want) {
			t.Fatalf("WriteImage of %d by %d by %d = %v, not %v", m.Width, m.Height, m.Planes, list, want)
		}
		if got, ok := impl.ReadImage(list); !ok || !equal(got, m) {
			t.Fatalf("ReadImage of %v = %v, %v", list, got, ok)
		}
	}
	one := impl.Image{Width: 1, Height: 1, Planes: 1, Data: []int{9}}
	if list := written(t, one); !slices.Equal(list, []int{112, 120, 1, 1, 1, 0, 0, 0, 9, 247, 245}) {
		t.Errorf("WriteImage of a pixel = %v", list)
	}
	zeros := []int{112, 120, 5, 1, 1, 0, 0, 5, 1, 26, 246}
	if list := written(t, flat(5, 1, 1, 5)); !slices.Equal(list, zeros) {
		t.Errorf("WriteImage of zeros = %v", list)
	}
}

// rough returns an image of 16 by 16 pixels with three planes that begins with random numbers and ends with zeros.
func rough(count int) impl.Image {
	m := flat(16, 16, 3, 768)
	copy(m.Data, numbers(4, count, 255))
	return m
}

func TestP39FilesThatAreTooLong(t *testing.T) {
	seen := map[int]bool{}
	for count := 500; count <= 768; count++ {
		m := rough(count)
		tokens := impl.BestTokens(impl.FilterImage(m))
		size := 7 + 2*len(tokens)
		seen[size] = true
		list, ok := impl.WriteImage(m)
		if ok != (size <= 1200) || !ok && len(list) > 0 || ok && len(list) != size {
			t.Fatalf("WriteImage, which needs %d bytes, = %d bytes, %v", size, len(list), ok)
		}
		if got, okRead := impl.ReadImage(fileOf(16, 16, 3, tokens)); okRead != ok || ok && !equal(got, m) {
			t.Fatalf("ReadImage of %d bytes: %v", size, okRead)
		}
	}
	if !seen[1199] || !seen[1201] || !seen[1203] {
		t.Error("no file is just short enough, or just too long")
	}
	if list, ok := impl.WriteImage(picture(16, 16, 4)); ok || len(list) > 0 {
		t.Errorf("WriteImage of 1024 random numbers = %d bytes, %v", len(list), ok)
	}
	for i, m := range badPictures() {
		if list, ok := impl.WriteImage(m); ok || len(list) > 0 {
			t.Errorf("WriteImage of bad picture %d = %v, %v", i, list, ok)
		}
	}
}

// Promise 40: WriteImage of what ReadImage reads are the bytes.
func TestP40EveryImageHasOneFile(t *testing.T) {
	for _, m := range fileImages() {
		best := written(t, m)
		rows := impl.FilterImage(m)
		lists := [][]impl.Token{impl.GreedyTokens(rows), singles(rows)}
		for kind := range 5 {
			lists = append(lists, impl.BestTokens(filteredBy(m, func(y int) int { return kind })))
			lists = append(lists, impl.BestTokens(filteredBy(m, func(y int) int { return (y + kind) % 5 })))
		}
		for _, tokens := range lists {
			list := fileOf(m.Width, m.Height, m.Planes, tokens)
			got, ok := impl.ReadImage(list)
			if ok != slices.Equal(list, best) {
				t.Fatalf("ReadImage of %v = %v, %v", list, got, ok)
			}
			if ok && !slices.Equal(written(t, got), list) {
				t.Fatalf("WriteImage of ReadImage of %v is another file", list)
			}
			if !ok {
				notRead(t, "other tokens or filters", list)
			}
		}
	}
}

func TestP40OtherTokensAndFilters(t *testing.T) {
	zeros := flat(5, 1, 1, 5)
	if got, ok := impl.ReadImage(fileOf(5, 1, 1, []impl.Token{{}, {Length: 5, Back: 1}})); !ok || !equal(got, zeros) {
		t.Errorf("ReadImage of zeros = %v, %v", got, ok)
	}
	notRead(t, "single bytes", fileOf(5, 1, 1, singles(make([]int, 6))))
	notRead(t, "a shorter match", fileOf(5, 1, 1, []impl.Token{{}, {Length: 4, Back: 1}, {}}))
	notRead(t, "a byte before the match", fileOf(5, 1, 1, []impl.Token{{}, {}, {Length: 4, Back: 1}}))
	notRead(t, "another distance", fileOf(5, 1, 1, []impl.Token{{}, {}, {Length: 4, Back: 2}}))
	for kind := 1; kind <= 4; kind++ {
		notRead(t, "another filter", fileOf(5, 1, 1, impl.BestTokens([]int{kind, 0, 0, 0, 0, 0})))
	}
}

// Promise 41: ReadImage fails if a byte behind the letters is greater or less by 1, or the last byte is missing.
func TestP41DamageIsFound(t *testing.T) {
	for _, m := range fileImages() {
		list := written(t, m)
		for i := range list {
			for _, change := range []int{-1, 1} {
				bad := slices.Clone(list)
				bad[i] += change
				notRead(t, "a changed byte", bad)
				if i < len(list)-2 && bad[i] >= 0 && bad[i] < 256 {
					checkOther(t, bad[:len(bad)-2])
				}
			}
			notRead(t, "bytes missing at the end", list[:i])
			notRead(t, "bytes missing at the beginning", list[i+1:])
			notRead(t, "a byte missing", slices.Delete(slices.Clone(list), i, i+1))
		}
		for _, n := range []int{-1, 0, 1, 255, 256} {
			notRead(t, "one more byte", append(slices.Clone(list), n))
		}
		notRead(t, "a byte that is checked, but is no token", sealed(append(slices.Clone(list[:len(list)-2]), 0)))
		notRead(t, "another token", sealed(append(slices.Clone(list[:len(list)-2]), 0, 0)))
		notRead(t, "no check", list[:len(list)-2])
		notRead(t, "two checks", sealed(list))
	}
}

// checkOther fails if bytes with the right check are read, but are not the file of the image.
func checkOther(t *testing.T, bytes []int) {
	t.Helper()
	list := sealed(bytes)
	if m, ok := impl.ReadImage(list); ok && !slices.Equal(written(t, m), list) {
		t.Errorf("ReadImage of %v = %v", list, m)
	}
}

func TestP41CheckedFilesThatAreNotValid(t *testing.T) {
	one := []impl.Token{{Byte: 0}, {Byte: 9}}
	if m, ok := impl.ReadImage(fileOf(1, 1, 1, one)); !ok || !slices.Equal(m.Data, []int{9}) {
		t.Errorf("ReadImage of a pixel = %v, %v", m, ok)
	}
	for _, n := range []int{0, 2, 5, 17, 255} {
		notRead(t, "another width", fileOf(n, 1, 1, one))
		notRead(t, "another height", fileOf(1, n, 1, one))
		notRead(t, "other planes", fileOf(1, 1, n, one))
	}
	for _, n := range []int{17, 255} {
		notRead(t, "a great width", fileOf(n, 1, 1, impl.BestTokens(make([]int, 1+n))))
		notRead(t, "a great height", fileOf(1, n, 1, impl.BestTokens(make([]int, 2*n))))
	}
	notRead(t, "five planes", fileOf(1, 1, 5, impl.BestTokens(make([]int, 6))))
	notRead(t, "no tokens", fileOf(1, 1, 1, nil))
	notRead(t, "another kind", fileOf(1, 1, 1, []impl.Token{{Byte: 5}, {Byte: 9}}))
	notRead(t, "a match at the beginning", fileOf(1, 1, 1, []impl.Token{{Length: 3, Back: 1}}))
	for _, token := range []impl.Token{{Length: 1, Back: 1}, {Length: 2, Back: 1}, {Length: 19, Back: 1}, {Length: 5}, {Length: 5, Back: 2}, {Length: 5, Back: 65}} {
		notRead(t, "a match that is not valid", fileOf(5, 1, 1, []impl.Token{{}, token}))
	}
	for i, letters := range [][]int{{'q', 'x'}, {'p', 'y'}, {'P', 'X'}, {'x', 'p'}, {0, 0}, {'p' + 256, 'x'}} {
		notRead(t, "other letters", sealed(append(letters, fileOf(1, 1, 1, one)[2:9]...)))
		notRead(t, "other letters and no more", sealed(letters[:1+i%2]))
	}
}

func TestP41ListsThatAreNoFiles(t *testing.T) {
	head := []int{'p', 'x', 1, 1, 1}
	for count := range 12 {
		notRead(t, "zeros only", make([]int, count))
		notRead(t, "zeros and a check", sealed(make([]int, count)))
		notRead(t, "random bytes", numbers(count, count, 255))
	}
	for count := range 6 {
		notRead(t, "a part of a head", head[:count])
		notRead(t, "a part of a head and a check", sealed(head[:count]))
	}
	for _, bad := range notBytes() {
		notRead(t, "a list that is not bytes", bad)
		notRead(t, "numbers that are not bytes", sealed(append(slices.Clone(head), bad...)))
	}
	notRead(t, "1200 bytes", numbers(1, 1200, 255))
	notRead(t, "1200 bytes behind a head", append(slices.Clone(head), make([]int, 1195)...))
	notRead(t, "1198 checked bytes", sealed(append(slices.Clone(head), make([]int, 1193)...)))
}

func TestFilesKeepTheirArguments(t *testing.T) {
	m := smooth(5, 4, 3)
	m.Data = roomy(m.Data)
	keeps(t, "FilterImage", func() [][]int { return [][]int{impl.FilterImage(m)} }, m.Data)
	rows := roomy(impl.FilterImage(m))
	keeps(t, "UnfilterImage", func() [][]int {
		out, _ := impl.UnfilterImage(5, 4, 3, rows)
		return [][]int{out.Data}
	}, rows)
	keeps(t, "WriteImage", func() [][]int {
		out, _ := impl.WriteImage(m)
		return [][]int{out}
	}, m.Data)
	file := roomy(written(t, m))
	keeps(t, "ReadImage", func() [][]int {
		out, _ := impl.ReadImage(file)
		return [][]int{out.Data}
	}, file)
	keeps(t, "CheckOf", func() [][]int { return [][]int{{impl.CheckOf(file)}} }, file)
}
