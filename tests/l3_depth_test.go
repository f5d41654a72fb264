package tests

import (
	"math"
	"slices"
	"strconv"
	"strings"
	"testing"

	"loop.example/pixelworks/impl"
)

// depths returns all valid depths.
func depths() []int {
	return []int{1, 2, 4, 8}
}

// badDepths returns depths that are not valid.
func badDepths() []int {
	return []int{0, -1, 3, 5, 6, 7, 9, 16, 63, 64, 65, math.MaxInt, math.MinInt}
}

// packed returns the bytes of a row by way of its binary digits.
func packed(row []int, depth int) []int {
	var digits strings.Builder
	for _, n := range row {
		s := strconv.FormatInt(int64(n), 2)
		digits.WriteString(strings.Repeat("0", depth-len(s)) + s)
	}
	for digits.Len()%8 > 0 {
		digits.WriteString("0")
	}
	var out []int
	for i := 0; i < digits.Len(); i += 8 {
		n, _ := strconv.ParseInt(digits.String()[i:i+8], 2, 64)
		out = append(out, int(n))
	}
	return out
}

// rowsOf returns rows of a depth of each length from 0 to 64.
func rowsOf(depth int) [][]int {
	top := 1<<depth - 1
	var out [][]int
	for count := range 65 {
		out = append(out, numbers(count+depth, count, top), slices.Repeat([]int{top}, count), make([]int, count))
	}
	return out
}

// unpacks fails unless UnpackRow returns a row.
func unpacks(t *testing.T, bytes []int, depth int, row []int) {
	t.Helper()
	if got, ok := impl.UnpackRow(bytes, depth, len(row)); !ok || !slices.Equal(got, row) {
		t.Fatalf("UnpackRow(%v, %d, %d) = %v, %v", bytes, depth, len(row), got, ok)
	}
}

// notUnpacked fails unless UnpackRow fails.
func notUnpacked(t *testing.T, bytes []int, depth int, count int) {
	t.Helper()
	if got, ok := impl.UnpackRow(bytes, depth, count); ok || len(got) > 0 {
		t.Fatalf("UnpackRow(%v, %d, %d) = %v, %v", bytes, depth, count, got, ok)
	}
}

// Promise 13: UnpackRow of PackRow is the row.
func TestP13PackedRowsCanBeUnpacked(t *testing.T) {
	for _, depth := range depths() {
		for _, row := range rowsOf(depth) {
			bytes := impl.PackRow(row, depth)
			if !slices.Equal(bytes, packed(row, depth)) {
				t.Fatalf("PackRow(%v, %d) = %v", row, depth, bytes)
			}
			unpacks(t, bytes, depth, row)
		}
	}
	for _, c := range []struct {
		row   []int
		depth int
		want  []int
	}{
		{[]int{1}, 1, []int{128}}, {[]int{0, 0, 0, 0, 0, 0, 0, 1, 1}, 1, []int{1, 128}}, {[]int{3}, 2, []int{192}},
		{[]int{0, 1, 2, 3, 3}, 2, []int{27, 192}}, {[]int{15}, 4, []int{240}}, {[]int{1, 2, 3}, 4, []int{18, 48}},
		{[]int{0, 255, 7}, 8, []int{0, 255, 7}},
	} {
		if got := impl.PackRow(c.row, c.depth); !slices.Equal(got, c.want) {
			t.Errorf("PackRow(%v, %d) = %v", c.row, c.depth, got)
		}
		unpacks(t, c.want, c.depth, c.row)
	}
}

func TestP13PackRowFails(t *testing.T) {
	for _, depth := range depths() {
		top := 1<<depth - 1
		if got := impl.PackRow(make([]int, 64), depth); len(got) != 8*depth {
			t.Errorf("PackRow of 64 numbers of depth %d has %d bytes", depth, len(got))
		}
		for _, count := range []int{65, 66, 72, 1000} {
			if got := impl.PackRow(make([]int, count), depth); len(got) > 0 {
				t.Errorf("PackRow of %d numbers of depth %d", count, depth)
			}
		}
		for _, n := range []int{-1, top + 1, math.MaxInt, math.MinInt} {
			for i := range 9 {
				row := make([]int, 9)
				row[i] = n
				if got := impl.PackRow(row, depth); len(got) > 0 {
					t.Errorf("PackRow(%v, %d) = %v", row, depth, got)
				}
			}
		}
	}
	for _, depth := range badDepths() {
		if len(impl.PackRow([]int{0, 1}, depth)) > 0 || len(impl.PackRow(nil, depth)) > 0 {
			t.Errorf("PackRow with the depth %d", depth)
		}
	}
}

// Promise 14: PackRow of what UnpackRow returns are the bytes.
func TestP14EveryRowHasOnePacking(t *testing.T) {
	for _, depth := range depths() {
		for count := range 65 {
			bits := count * depth
			bytes := numbers(count*depth, (bits+7)/8, 255)
			if bits%8 > 0 {
				bytes[len(bytes)-1] &^= 1<<(8-bits%8) - 1
			}
			row, ok := impl.UnpackRow(bytes, depth, count)
			if !ok || len(row) != count || !slices.Equal(impl.PackRow(row, depth), bytes) {
				t.Fatalf("PackRow of UnpackRow(%v, %d, %d)", bytes, depth, count)
			}
			notUnpacked(t, append(slices.Clone(bytes), 0), depth, count)
			if len(bytes) > 0 {
				notUnpacked(t, bytes[:len(bytes)-1], depth, count)
			}
		}
	}
}

func TestP14BitsBehindTheEnd(t *testing.T) {
	for _, depth := range depths() {
		for count := 1; count*depth <= 8; count++ {
			for n := range 256 {
				_, ok := impl.UnpackRow([]int{n}, depth, count)
				_, after := impl.UnpackRow([]int{200, n}, depth, 8/depth+count)
				want := n%(1<<(8-count*depth)) == 0
				if ok != want || after != want {
					t.Fatalf("UnpackRow of the byte %d as %d numbers of depth %d: %v, %v", n, count, depth, ok, after)
				}
				if !want {
					notUnpacked(t, []int{n}, depth, count)
				}
			}
		}
	}
}

func TestP14UnpackRowFails(t *testing.T) {
	for _, depth := range depths() {
		unpacks(t, nil, depth, nil)
		unpacks(t, make([]int, 8*depth), depth, make([]int, 64))
		notUnpacked(t, make([]int, packedCount(65, depth)), depth, 65)
		notUnpacked(t, make([]int, 8*depth), depth, 65)
		for _, count := range []int{-1, -8, math.MaxInt, math.MinInt} {
			notUnpacked(t, nil, depth, count)
			notUnpacked(t, []int{0}, depth, count)
		}
		for _, n := range []int{-1, 256, 512, -256, math.MaxInt, math.MinInt} {
			notUnpacked(t, []int{n}, depth, 8/depth)
			notUnpacked(t, []int{0, n}, depth, 16/depth)
			notUnpacked(t, []int{n, 0}, depth, 16/depth)
		}
	}
	for _, depth := range badDepths() {
		notUnpacked(t, []int{0}, depth, 1)
		notUnpacked(t, nil, depth, 0)
		notUnpacked(t, nil, depth, 1)
	}
}

// packedCount returns the number of bytes of count numbers of a depth.
func packedCount(count int, depth int) int {
	return len(packed(make([]int, count), depth))
}

// Promise 15: ExpandDepth of ReduceDepth differs from the number by at most half the distance of two levels, and reducing keeps the order.
func TestP15ReducedNumbersAreTheNearestOnes(t *testing.T) {
	for _, depth := range depths() {
		gap := 255 / (1<<depth - 1)
		before := 0
		for n := range 256 {
			reduced := impl.ReduceDepth(n, depth)
			away := impl.ExpandDepth(reduced, depth) - n
			if 2*max(away, -away) > gap {
				t.Errorf("ReduceDepth(%d, %d) = %d, away by %d", n, depth, reduced, away)
			}
			if reduced < before || reduced > 1<<depth-1 {
				t.Errorf("ReduceDepth(%d, %d) = %d behind %d", n, depth, reduced, before)
			}
			before = reduced
		}
	}
	for _, c := range [][3]int{{42, 2, 0}, {43, 2, 1}, {127, 2, 1}, {128, 2, 2}, {8, 4, 0}, {9, 4, 1}, {246, 4, 14}, {247, 4, 15}, {77, 8, 77}} {
		if got := impl.ReduceDepth(c[0], c[1]); got != c[2] {
			t.Errorf("ReduceDepth(%d, %d) = %d", c[0], c[1], got)
		}
	}
	for _, depth := range depths() {
		for _, n := range []int{-1, 256, math.MaxInt, math.MinInt} {
			if got := impl.ReduceDepth(n, depth); got != -1 {
				t.Errorf("ReduceDepth(%d, %d) = %d", n, depth, got)
			}
		}
	}
	for _, depth := range badDepths() {
		if got := impl.ReduceDepth(0, depth); got != -1 {
			t.Errorf("ReduceDepth(0, %d) = %d", depth, got)
		}
	}
}

// Promise 16: ReduceDepth of ExpandDepth is the number, 0 stays 0, and the greatest number becomes 255.
func TestP16LevelsAreKept(t *testing.T) {
	for _, depth := range depths() {
		top := 1<<depth - 1
		for n := range top + 1 {
			expanded := impl.ExpandDepth(n, depth)
			if expanded*top != 255*n || impl.ReduceDepth(expanded, depth) != n {
				t.Errorf("ExpandDepth(%d, %d) = %d", n, depth, expanded)
			}
		}
		if impl.ExpandDepth(0, depth) != 0 || impl.ExpandDepth(top, depth) != 255 {
			t.Errorf("ExpandDepth of the ends of depth %d", depth)
		}
		if impl.ReduceDepth(0, depth) != 0 || impl.ReduceDepth(255, depth) != top {
			t.Errorf("ReduceDepth of the ends of depth %d", depth)
		}
		for _, n := range []int{-1, top + 1, math.MaxInt, math.MinInt} {
			if got := impl.ExpandDepth(n, depth); got != -1 {
				t.Errorf("ExpandDepth(%d, %d) = %d", n, depth, got)
			}
		}
	}
	for _, depth := range badDepths() {
		if got := impl.ExpandDepth(0, depth); got != -1 {
			t.Errorf("ExpandDepth(0, %d) = %d", depth, got)
		}
	}
}

// Promise 141: PackRow of a row of an even number of numbers is PackRow of the numbers two by two with twice the depth.
func TestP141PairsOfNumbersAreNumbersOfTwiceTheDepth(t *testing.T) {
	for _, depth := range []int{1, 2, 4} {
		for _, row := range rowsOf(depth) {
			if len(row)%2 > 0 {
				continue
			}
			var pairs []int
			for i := 0; i < len(row); i += 2 {
				pairs = append(pairs, row[i]*(1<<depth)+row[i+1])
			}
			got := impl.PackRow(row, depth)
			if !slices.Equal(got, impl.PackRow(pairs, 2*depth)) || len(got) != packedCount(len(row), depth) {
				t.Fatalf("PackRow(%v, %d) is not that of pairs", row, depth)
			}
		}
	}
}

func TestDepthsKeepTheirArguments(t *testing.T) {
	for _, depth := range depths() {
		for _, count := range []int{1, 8, 9, 64} {
			row := roomy(numbers(count, count, 1<<depth-1))
			keeps(t, "PackRow", func() [][]int { return [][]int{impl.PackRow(row, depth)} }, row)
			bytes := roomy(impl.PackRow(row, depth))
			keeps(t, "UnpackRow", func() [][]int {
				out, _ := impl.UnpackRow(bytes, depth, count)
				return [][]int{out}
			}, bytes)
		}
	}
}
