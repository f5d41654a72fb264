package tests

import (
	"math"
	"slices"
	"testing"

	"loop.example/pixelworks/impl"
)

// shelved returns the boxes of sprites in an atlas, and its height: the highest sprite that is left comes next, the first one of several.
func shelved(list []impl.Size, width int) ([]impl.Box, int) {
	boxes, done := make([]impl.Box, len(list)), make([]bool, len(list))
	var tops, ends []int
	height := 0
	for range list {
		next := -1
		for i, s := range list {
			if !done[i] && (next < 0 || s.Height > list[next].Height) {
				next = i
			}
		}
		s, row := list[next], 0
		for row < len(ends) && ends[row]+s.Width > width {
			row++
		}
		if row == len(ends) {
			tops, ends = append(tops, height), append(ends, 0)
			height += s.Height
		}
		boxes[next], done[next] = impl.Box{X: ends[row], Y: tops[row], Width: s.Width, Height: s.Height}, true
		ends[row] += s.Width
	}
	return boxes, height
}

// atlasWidths returns widths of atlases.
func atlasWidths() []int {
	return []int{1, 2, 3, 5, 8, 15, 16, 17, 31, 40, 63, 64}
}

// spriteLists returns lists of sprites for an atlas, with few and with many different sizes.
func spriteLists(width int) [][]impl.Size {
	out := [][]impl.Size{
		nil, {}, slices.Repeat([]impl.Size{{Width: width, Height: 16}}, 12), slices.Repeat([]impl.Size{{Width: 1, Height: 1}}, 12),
		slices.Repeat([]impl.Size{{Width: width, Height: 1}}, 12), slices.Repeat([]impl.Size{{Width: 1, Height: 16}}, 12),
		slices.Repeat([]impl.Size{{Width: (width + 1) / 2, Height: 7}}, 11), slices.Repeat([]impl.Size{{Width: width/2 + 1, Height: 7}, {Width: max(width-width/2-1, 1), Height: 7}}, 6),
	}
	for seed := range 130 {
		widths := numbers(seed, 12, []int{width, max(width/2, 1), max(width/5, 1), 3}[seed%4]-1)
		heights := numbers(seed+700, 12, []int{16, 2, 4, 1, 9}[seed%5]-1)
		var list []impl.Size
		for i := range seed % 13 {
			list = append(list, impl.Size{Width: min(1+widths[i], width), Height: 1 + heights[i]})
		}
		out = append(out, list)
	}
	return out
}

// eachAtlas calls a function for many lists of sprites and widths.
func eachAtlas(visit func(list []impl.Size, width int)) {
	for _, width := range atlasWidths() {
		for _, list := range spriteLists(width) {
			visit(list, width)
		}
	}
}

// packedSprites returns PackSprites, which must not fail, and checks each box.
func packedSprites(t *testing.T, list []impl.Size, width int) ([]impl.Box, int) {
	t.Helper()
	boxes, height := impl.PackSprites(list, width)
	want, least := shelved(list, width)
	if height != least || !slices.Equal(boxes, want) {
		t.Fatalf("PackSprites of %v in %d = %v, %d, not %v, %d", list, width, boxes, height, want, least)
	}
	return boxes, height
}

// isPacking reports whether boxes lie in an atlas and none of its pixels is in two of them.
func isPacking(list []impl.Box, width int, height int) bool {
	if len(list) > 12 || width < 1 || width > 64 || height < 0 || height > 192 {
		return false
	}
	var used [192][64]bool
	for _, b := range list {
		for _, n := range []int{b.X, b.Y, b.Width, b.Height} {
			if n < 0 || n > 192 {
				return false
			}
		}
		if b.Width == 0 || b.Height == 0 || b.X+b.Width > width || b.Y+b.Height > height {
			return false
		}
		for y := b.Y; y < b.Y+b.Height; y++ {
			for x := b.X; x < b.X+b.Width; x++ {
				if used[y][x] {
					return false
				}
				used[y][x] = true
			}
		}
	}
	return true
}

func TestAtlasConstants(t *testing.T) {
	if impl.MaxAtlas != 64 || impl.MaxSprites != 12 || impl.MaxAtlasHeight != 192 {
		t.Error("the limits of atlases")
	}
}

// Promise 103: the boxes of PackSprites are a ValidPacking with the sizes of the sprites.
func TestP103SpritesDoNotOverlap(t *testing.T) {
	eachAtlas(func(list []impl.Size, width int) {
		boxes, height := packedSprites(t, list, width)
		if !impl.ValidPacking(boxes, width, height) || !isPacking(boxes, width, height) || len(boxes) != len(list) {
			t.Fatalf("PackSprites of %v in %d = %v, %d is not valid", list, width, boxes, height)
		}
		for i, b := range boxes {
			if b.Width != list[i].Width || b.Height != list[i].Height {
				t.Fatalf("the box of %v is %v", list[i], b)
			}
		}
		if height > 0 && impl.ValidPacking(boxes, width, height-1) {
			t.Fatalf("PackSprites of %v in %d is lower than %d", list, width, height)
		}
	})
}

func TestP103KnownAtlases(t *testing.T) {
	for _, c := range []struct {
		what   string
		list   []impl.Size
		width  int
		want   []impl.Box
		height int
	}{
		{"no sprites", nil, 8, nil, 0},
		{"no sprites and the least width", []impl.Size{}, 1, nil, 0},
		{"no sprites and the greatest width", nil, 64, nil, 0},
		{"equal heights, in order", []impl.Size{{Width: 2, Height: 3}, {Width: 1, Height: 3}, {Width: 3, Height: 3}}, 8,
			[]impl.Box{{X: 0, Y: 0, Width: 2, Height: 3}, {X: 2, Y: 0, Width: 1, Height: 3}, {X: 3, Y: 0, Width: 3, Height: 3}}, 3},
		{"equal heights among others", []impl.Size{{Width: 1, Height: 2}, {Width: 2, Height: 5}, {Width: 3, Height: 2}, {Width: 4, Height: 5}}, 16,
			[]impl.Box{{X: 6, Y: 0, Width: 1, Height: 2}, {X: 0, Y: 0, Width: 2, Height: 5}, {X: 7, Y: 0, Width: 3, Height: 2}, {X: 2, Y: 0, Width: 4, Height: 5}}, 5},
		{"one that just fits", []impl.Size{{Width: 5, Height: 4}, {Width: 3, Height: 2}}, 8,
			[]impl.Box{{X: 0, Y: 0, Width: 5, Height: 4}, {X: 5, Y: 0, Width: 3, Height: 2}}, 4},
		{"one that just does not", []impl.Size{{Width: 5, Height: 4}, {Width: 4, Height: 2}}, 8,
			[]impl.Box{{X: 0, Y: 0, Width: 5, Height: 4}, {X: 0, Y: 4, Width: 4, Height: 2}}, 6},
		{"as wide as the atlas", []impl.Size{{Width: 8, Height: 1}, {Width: 8, Height: 3}, {Width: 8, Height: 2}}, 8,
			[]impl.Box{{X: 0, Y: 5, Width: 8, Height: 1}, {X: 0, Y: 0, Width: 8, Height: 3}, {X: 0, Y: 3, Width: 8, Height: 2}}, 6},
		{"back to the first shelf", []impl.Size{{Width: 4, Height: 6}, {Width: 6, Height: 5}, {Width: 4, Height: 3}}, 8,
			[]impl.Box{{X: 0, Y: 0, Width: 4, Height: 6}, {X: 0, Y: 6, Width: 6, Height: 5}, {X: 4, Y: 0, Width: 4, Height: 3}}, 11},
		{"the first shelf, not the fullest one", []impl.Size{{Width: 5, Height: 6}, {Width: 6, Height: 5}, {Width: 2, Height: 3}}, 8,
			[]impl.Box{{X: 0, Y: 0, Width: 5, Height: 6}, {X: 0, Y: 6, Width: 6, Height: 5}, {X: 5, Y: 0, Width: 2, Height: 3}}, 11},
		{"the second shelf", []impl.Size{{Width: 7, Height: 6}, {Width: 6, Height: 5}, {Width: 2, Height: 3}}, 8,
			[]impl.Box{{X: 0, Y: 0, Width: 7, Height: 6}, {X: 0, Y: 6, Width: 6, Height: 5}, {X: 6, Y: 6, Width: 2, Height: 3}}, 11},
		{"not below a sprite of the same shelf", []impl.Size{{Width: 4, Height: 9}, {Width: 4, Height: 1}, {Width: 4, Height: 1}}, 8,
			[]impl.Box{{X: 0, Y: 0, Width: 4, Height: 9}, {X: 4, Y: 0, Width: 4, Height: 1}, {X: 0, Y: 9, Width: 4, Height: 1}}, 10},
		{"a column", []impl.Size{{Width: 1, Height: 2}, {Width: 1, Height: 16}, {Width: 1, Height: 2}}, 1,
			[]impl.Box{{X: 0, Y: 16, Width: 1, Height: 2}, {X: 0, Y: 0, Width: 1, Height: 16}, {X: 0, Y: 18, Width: 1, Height: 2}}, 20},
		{"the widest sprites", []impl.Size{{Width: 64, Height: 16}, {Width: 64, Height: 1}}, 64,
			[]impl.Box{{X: 0, Y: 0, Width: 64, Height: 16}, {X: 0, Y: 16, Width: 64, Height: 1}}, 17},
	} {
		boxes, height := impl.PackSprites(c.list, c.width)
		if height != c.height || !slices.Equal(boxes, c.want) {
			t.Errorf("PackSprites of %s = %v, %d, not %v, %d", c.what, boxes, height, c.want, c.height)
		}
	}
}

// eachBadAtlas calls a function for sprites and widths of which no atlas is made.
func eachBadAtlas(visit func(what string, list []impl.Size, width int)) {
	for _, n := range []int{0, -1, 65, 66, -64, 1 << 32, math.MaxInt, math.MinInt} {
		visit("a bad width and no sprites", nil, n)
		visit("a bad width", []impl.Size{{Width: 1, Height: 1}}, n)
		visit("a bad width and a sprite of it", []impl.Size{{Width: n, Height: 1}}, n)
	}
	for _, width := range atlasWidths() {
		fine := impl.Size{Width: width, Height: 16}
		var bad []impl.Size
		for _, n := range []int{0, -1, width + 1, 65, -width, math.MaxInt, math.MaxInt - 1, math.MinInt} {
			bad = append(bad, impl.Size{Width: n, Height: 1})
		}
		for _, n := range []int{0, -1, 17, 18, -16, 192, math.MaxInt, math.MaxInt - 1, math.MinInt} {
			bad = append(bad, impl.Size{Width: 1, Height: n})
		}
		for _, s := range bad {
			visit("a bad sprite", []impl.Size{s}, width)
			visit("a bad sprite before others", []impl.Size{s, fine, fine}, width)
			visit("a bad sprite between others", []impl.Size{fine, s, fine}, width)
			visit("a bad sprite behind others", []impl.Size{fine, fine, s}, width)
			visit("two bad sprites", []impl.Size{s, s}, width)
			visit("a bad sprite as the last one of 12", append(slices.Repeat([]impl.Size{fine}, 11), s), width)
		}
		for _, s := range []impl.Size{fine, {Width: 1, Height: 1}} {
			for _, count := range []int{13, 14, 100} {
				visit("too many sprites", slices.Repeat([]impl.Size{s}, count), width)
			}
		}
	}
}

func TestP103PackSpritesFails(t *testing.T) {
	eachBadAtlas(func(what string, list []impl.Size, width int) {
		if boxes, height := impl.PackSprites(list, width); len(boxes) > 0 || height != -1 {
			t.Errorf("PackSprites with %s, %v in %d = %v, %d", what, list, width, boxes, height)
		}
	})
}

// Promise 104: the height of PackSprites is at least LeastHeight, and at most the sum of all heights.
func TestP104AtlasesAreNotLowerThanTheyCanBe(t *testing.T) {
	eachAtlas(func(list []impl.Size, width int) {
		_, height := impl.PackSprites(list, width)
		sum := 0
		for _, s := range list {
			sum += s.Height
		}
		if least := impl.LeastHeight(list, width); height < least || height > sum || least < 0 {
			t.Fatalf("PackSprites of %v in %d has the height %d, not one in %d..%d", list, width, height, least, sum)
		}
	})
	tallest := slices.Repeat([]impl.Size{{Width: 64, Height: 16}}, 12)
	if _, height := impl.PackSprites(tallest, 64); height != 192 || impl.LeastHeight(tallest, 64) != 192 {
		t.Errorf("the highest atlas has the height %d, at least %d", height, impl.LeastHeight(tallest, 64))
	}
}

// Promise 105: a valid packing is valid without its last box, and in a greater atlas.
func TestP105ValidPackingsCanGrow(t *testing.T) {
	eachAtlas(func(list []impl.Size, width int) {
		boxes, height := impl.PackSprites(list, width)
		for count := len(boxes); count >= 0; count-- {
			if !impl.ValidPacking(boxes[:count], width, height) {
				t.Fatalf("the packing %v in %d by %d is not valid", boxes[:count], width, height)
			}
		}
		for _, greater := range [][2]int{{width + 1, height}, {width, height + 1}, {64, height}, {width, 192}, {64, 192}} {
			if w, h := min(greater[0], 64), min(greater[1], 192); !impl.ValidPacking(boxes, w, h) {
				t.Fatalf("the packing %v is not valid in %d by %d", boxes, w, h)
			}
		}
	})
}

// packs checks ValidPacking of boxes in both orders.
func packs(t *testing.T, list []impl.Box, width int, height int, want bool) {
	t.Helper()
	back := slices.Clone(list)
	slices.Reverse(back)
	if impl.ValidPacking(list, width, height) != want || impl.ValidPacking(back, width, height) != want {
		t.Fatalf("ValidPacking of %v in %d by %d is not %v", list, width, height, want)
	}
}

func TestP105AllPairsOfBoxes(t *testing.T) {
	var all []impl.Box
	for i := range 5 * 5 * 4 * 4 {
		all = append(all, impl.Box{X: i%5 - 1, Y: i/5%5 - 1, Width: i / 25 % 4, Height: i / 100})
	}
	for _, a := range all {
		for width := range 4 {
			for height := -1; height < 4; height++ {
				packs(t, []impl.Box{a}, width, height, isPacking([]impl.Box{a}, width, height))
			}
		}
		if !isPacking([]impl.Box{a}, 3, 3) {
			packs(t, []impl.Box{a, {X: 0, Y: 0, Width: 1, Height: 1}}, 3, 3, false)
			continue
		}
		for _, b := range all {
			packs(t, []impl.Box{a, b}, 3, 3, isPacking([]impl.Box{a, b}, 3, 3))
		}
	}
}

func TestP105KnownPackings(t *testing.T) {
	middle := impl.Box{X: 3, Y: 4, Width: 3, Height: 2} // columns 3 to 5 and rows 4 and 5
	for _, c := range []struct {
		what string
		b    impl.Box
		want bool
	}{
		{"touching at the left", impl.Box{X: 1, Y: 4, Width: 2, Height: 2}, true},
		{"one pixel more to the right", impl.Box{X: 1, Y: 4, Width: 3, Height: 2}, false},
		{"touching at the right", impl.Box{X: 6, Y: 4, Width: 2, Height: 2}, true},
		{"one pixel more to the left", impl.Box{X: 5, Y: 4, Width: 2, Height: 2}, false},
		{"touching above", impl.Box{X: 3, Y: 1, Width: 3, Height: 3}, true},
		{"one pixel lower", impl.Box{X: 3, Y: 1, Width: 3, Height: 4}, false},
		{"touching below", impl.Box{X: 3, Y: 6, Width: 3, Height: 1}, true},
		{"one pixel higher", impl.Box{X: 3, Y: 5, Width: 3, Height: 1}, false},
		{"touching at the upper left corner", impl.Box{X: 2, Y: 3, Width: 1, Height: 1}, true},
		{"the upper left pixel", impl.Box{X: 2, Y: 3, Width: 2, Height: 2}, false},
		{"touching at the upper right corner", impl.Box{X: 6, Y: 3, Width: 1, Height: 1}, true},
		{"the upper right pixel", impl.Box{X: 5, Y: 3, Width: 2, Height: 2}, false},
		{"touching at the lower left corner", impl.Box{X: 2, Y: 6, Width: 1, Height: 1}, true},
		{"the lower left pixel", impl.Box{X: 2, Y: 5, Width: 2, Height: 2}, false},
		{"touching at the lower right corner", impl.Box{X: 6, Y: 6, Width: 1, Height: 1}, true},
		{"the lower right pixel", impl.Box{X: 5, Y: 5, Width: 2, Height: 2}, false},
		{"inside", impl.Box{X: 4, Y: 4, Width: 1, Height: 1}, false},
		{"around", impl.Box{X: 0, Y: 0, Width: 10, Height: 9}, false},
		{"the same", middle, false},
		{"across", impl.Box{X: 4, Y: 0, Width: 1, Height: 9}, false},
		{"at the left border", impl.Box{X: 0, Y: 0, Width: 1, Height: 9}, true},
		{"at the right border", impl.Box{X: 9, Y: 0, Width: 1, Height: 9}, true},
		{"over the right border", impl.Box{X: 9, Y: 0, Width: 2, Height: 9}, false},
		{"behind the right border", impl.Box{X: 10, Y: 0, Width: 1, Height: 1}, false},
		{"at the lower border", impl.Box{X: 0, Y: 8, Width: 10, Height: 1}, true},
		{"over the lower border", impl.Box{X: 0, Y: 8, Width: 10, Height: 2}, false},
		{"below the lower border", impl.Box{X: 0, Y: 9, Width: 1, Height: 1}, false},
		{"over the left border", impl.Box{X: -1, Y: 0, Width: 2, Height: 1}, false},
		{"over the upper border", impl.Box{X: 0, Y: -1, Width: 1, Height: 2}, false},
		{"no columns", impl.Box{X: 0, Y: 0, Width: 0, Height: 1}, false},
		{"no rows", impl.Box{X: 0, Y: 0, Width: 1, Height: 0}, false},
		{"less than no columns", impl.Box{X: 2, Y: 0, Width: -1, Height: 1}, false},
		{"less than no rows", impl.Box{X: 0, Y: 2, Width: 1, Height: -1}, false},
		{"nothing", impl.Box{}, false},
	} {
		if got := impl.ValidPacking([]impl.Box{middle, c.b}, 10, 9); got != c.want {
			t.Errorf("ValidPacking with a box %s = %v", c.what, got)
		}
		if got := impl.ValidPacking([]impl.Box{c.b, middle}, 10, 9); got != c.want {
			t.Errorf("ValidPacking with a box %s before it = %v", c.what, got)
		}
	}
}

func TestP105LimitsOfAtlases(t *testing.T) {
	one := []impl.Box{{X: 0, Y: 0, Width: 1, Height: 1}}
	for _, c := range []struct {
		list   []impl.Box
		width  int
		height int
		want   bool
	}{
		{nil, 1, 0, true}, {nil, 64, 0, true}, {nil, 64, 192, true}, {nil, 1, 192, true}, {[]impl.Box{}, 5, 5, true},
		{nil, 0, 0, false}, {nil, -1, 5, false}, {nil, 65, 5, false}, {nil, 5, -1, false}, {nil, 5, 193, false},
		{nil, math.MaxInt, 5, false}, {nil, math.MinInt, 5, false}, {nil, 5, math.MaxInt, false}, {nil, 5, math.MinInt, false},
		{one, 1, 1, true}, {one, 64, 192, true}, {one, 1, 0, false}, {one, 0, 1, false}, {one, 65, 1, false}, {one, 64, 193, false},
		{one, 1, 193, false}, {one, math.MaxInt, math.MaxInt, false}, {one, 1, -1, false},
		{[]impl.Box{{X: 63, Y: 191, Width: 1, Height: 1}}, 64, 192, true}, {[]impl.Box{{X: 0, Y: 0, Width: 64, Height: 192}}, 64, 192, true},
		{[]impl.Box{{X: 63, Y: 0, Width: 2, Height: 1}}, 64, 192, false}, {[]impl.Box{{X: 0, Y: 191, Width: 1, Height: 2}}, 64, 192, false},
		{[]impl.Box{{X: 0, Y: 0, Width: 20, Height: 100}}, 64, 192, true}, // higher than a sprite
	} {
		if got := impl.ValidPacking(c.list, c.width, c.height); got != c.want {
			t.Errorf("ValidPacking of %v in %d by %d = %v", c.list, c.width, c.height, got)
		}
	}
	var row []impl.Box
	for x := range 64 {
		row = append(row, impl.Box{X: x, Y: x % 3, Width: 1, Height: 1 + x%2})
	}
	for count := range row {
		if got := impl.ValidPacking(row[:count], 64, 4); got != (count <= 12) {
			t.Errorf("ValidPacking of %d boxes = %v", count, got)
		}
	}
}

func TestP105BoxesThatOverflow(t *testing.T) {
	for _, n := range []int{math.MaxInt, math.MaxInt - 1, math.MaxInt - 63, math.MinInt, math.MinInt + 1, 1 << 32, 1 << 62, -1 << 62, -64, 193} {
		for _, b := range []impl.Box{{X: n, Y: 0, Width: 1, Height: 1}, {X: 0, Y: n, Width: 1, Height: 1}, {X: 1, Y: 0, Width: n, Height: 1},
			{X: 0, Y: 1, Width: 1, Height: n}, {X: n, Y: n, Width: n, Height: n}, {X: 9, Y: 9, Width: n, Height: n}, {X: n, Y: 0, Width: n, Height: 1},
			{X: 0, Y: n, Width: 1, Height: n}, {X: n, Y: 0, Width: -n, Height: 1}, {X: 0, Y: n, Width: 1, Height: -n}, {X: n, Y: n, Width: -n, Height: -n}} {
			for _, other := range []impl.Box{{X: 0, Y: 0, Width: 1, Height: 1}, {X: 20, Y: 20, Width: 4, Height: 4}, b} {
				packs(t, []impl.Box{b}, 64, 192, false)
				packs(t, []impl.Box{b, other}, 64, 192, false)
				packs(t, []impl.Box{other, b, {X: 30, Y: 30, Width: 1, Height: 1}}, 64, 192, false)
			}
		}
	}
}

// Promise 106: a valid packing with one of its boxes once more is not valid.
func TestP106NoBoxCanBeThereTwice(t *testing.T) {
	eachAtlas(func(list []impl.Size, width int) {
		boxes, height := impl.PackSprites(list, width)
		for i := range boxes[:min(len(boxes), 11)] {
			twice := append(slices.Clone(boxes[:min(len(boxes), 11)]), boxes[i])
			packs(t, twice, width, height, false)
			packs(t, slices.Insert(slices.Clone(boxes[:min(len(boxes), 11)]), i, boxes[i]), 64, 192, false)
		}
		if len(boxes) > 0 { // also if there are too many then
			packs(t, append(slices.Clone(boxes), boxes[0]), width, height, false)
		}
	})
}

// leastRows returns the smallest number of rows that is not lower than a sprite and has room for all their pixels.
func leastRows(list []impl.Size, width int) int {
	rows, area := 0, 0
	for _, s := range list {
		rows = max(rows, s.Height)
		area += s.Width * s.Height
	}
	for rows*width < area {
		rows++
	}
	return rows
}

// Promise 107: LeastHeight does not grow with the width, and is at least the height of every sprite.
func TestP107WiderAtlasesCanBeLower(t *testing.T) {
	eachAtlas(func(list []impl.Size, width int) {
		before := -1
		for wide := width; wide <= 64; wide++ {
			least := impl.LeastHeight(list, wide)
			if want := leastRows(list, wide); least != want {
				t.Fatalf("LeastHeight of %v in %d = %d, not %d", list, wide, least, want)
			}
			if before >= 0 && least > before {
				t.Fatalf("LeastHeight of %v in %d grows from %d to %d", list, wide, before, least)
			}
			for _, s := range list {
				if least < s.Height {
					t.Fatalf("LeastHeight of %v in %d = %d", list, wide, least)
				}
			}
			before = least
		}
	})
}

func TestP107KnownHeights(t *testing.T) {
	for _, c := range []struct {
		list  []impl.Size
		width int
		want  int
	}{
		{nil, 1, 0}, {nil, 64, 0}, {[]impl.Size{}, 7, 0},
		{[]impl.Size{{Width: 1, Height: 1}}, 1, 1}, {[]impl.Size{{Width: 1, Height: 1}}, 64, 1}, {[]impl.Size{{Width: 1, Height: 16}}, 64, 16},
		{[]impl.Size{{Width: 4, Height: 4}, {Width: 4, Height: 4}}, 8, 4},                        // 32 pixels
		{[]impl.Size{{Width: 4, Height: 4}, {Width: 4, Height: 4}}, 7, 5},                        // with a remainder of 4
		{[]impl.Size{{Width: 4, Height: 4}, {Width: 4, Height: 4}}, 4, 8},                        // without one
		{[]impl.Size{{Width: 4, Height: 4}, {Width: 4, Height: 4}}, 5, 7},                        // with one of 2
		{[]impl.Size{{Width: 3, Height: 1}, {Width: 3, Height: 1}, {Width: 1, Height: 1}}, 3, 3}, // with one of 1
		{[]impl.Size{{Width: 3, Height: 1}, {Width: 3, Height: 1}, {Width: 2, Height: 1}}, 3, 3}, // with one less than the width
		{[]impl.Size{{Width: 3, Height: 1}, {Width: 3, Height: 1}, {Width: 3, Height: 1}}, 3, 3},
		{[]impl.Size{{Width: 1, Height: 9}, {Width: 8, Height: 8}}, 8, 10},
		{[]impl.Size{{Width: 1, Height: 9}, {Width: 8, Height: 8}}, 9, 9},
		{slices.Repeat([]impl.Size{{Width: 64, Height: 16}}, 12), 64, 192}, {slices.Repeat([]impl.Size{{Width: 1, Height: 1}}, 12), 1, 12},
	} {
		if got := impl.LeastHeight(c.list, c.width); got != c.want {
			t.Errorf("LeastHeight of %v in %d = %d, not %d", c.list, c.width, got, c.want)
		}
	}
}

func TestP107LeastHeightFails(t *testing.T) {
	eachBadAtlas(func(what string, list []impl.Size, width int) {
		if got := impl.LeastHeight(list, width); got != -1 {
			t.Errorf("LeastHeight with %s, %v in %d = %d", what, list, width, got)
		}
	})
}

// Promise 152: PackSprites of a single sprite has it at the upper left, and the height is its height.
func TestP152SingleSpritesLieInTheCorner(t *testing.T) {
	for atlas := 1; atlas <= 64; atlas++ {
		for width := 1; width <= atlas; width++ {
			for height := 1; height <= 16; height++ {
				s := impl.Size{Width: width, Height: height}
				boxes, got := impl.PackSprites([]impl.Size{s}, atlas)
				if len(boxes) != 1 || boxes[0] != (impl.Box{Width: width, Height: height}) || got != height {
					t.Fatalf("PackSprites of %v in %d = %v, %d", s, atlas, boxes, got)
				}
				if least := impl.LeastHeight([]impl.Size{s}, atlas); least != height {
					t.Fatalf("LeastHeight of %v in %d = %d", s, atlas, least)
				}
			}
		}
	}
}

func TestAtlasesKeepTheirArguments(t *testing.T) {
	sizes := []impl.Size{{Width: 1, Height: 2}, {Width: 5, Height: 7}, {Width: 3, Height: 2}, {Width: 5, Height: 9}, {Width: spoiled, Height: spoiled}}
	list, old := sizes[:4], slices.Clone(sizes)
	boxes, height := impl.PackSprites(list, 6)
	again, _ := impl.PackSprites(list, 6)
	if impl.LeastHeight(list, 6) != 15 || height != 18 || !slices.Equal(sizes, old) {
		t.Errorf("PackSprites or LeastHeight changed the sprites: %v", sizes)
	}
	packing := append(slices.Clone(again), impl.Box{X: spoiled})
	if !impl.ValidPacking(packing[:4], 6, 18) || !slices.Equal(packing[:4], again) || packing[4] != (impl.Box{X: spoiled}) {
		t.Errorf("ValidPacking changed the boxes: %v", packing)
	}
	for i := range boxes[:cap(boxes)] {
		boxes[:cap(boxes)][i] = impl.Box{X: spoiled}
	}
	if last, _ := impl.PackSprites(list, 6); !slices.Equal(last, again) {
		t.Errorf("PackSprites keeps memory of an earlier call: %v", last)
	}
}
