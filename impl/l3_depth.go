package impl

import "slices"

// MaxRow is the largest number of numbers of a row.
const MaxRow = 64

// byteBits is the number of bits of a packed byte.
const byteBits = 8

// bitWriter packs numbers into bytes, from the highest bits on. A depth
// divides byteBits, so that no number is spread over two bytes.
type bitWriter struct {
	bytes []int
	free  int
}

// put appends a number of a depth.
func (w *bitWriter) put(n int, depth int) {
	if w.free == 0 {
		w.bytes = append(w.bytes, 0)
		w.free = byteBits
	}
	w.free -= depth
	w.bytes[len(w.bytes)-1] |= n << w.free
}

// bitReader takes numbers out of bytes, from the highest bits on.
type bitReader struct {
	bytes []int
	done  int
}

// take returns the next number of a depth, which must be there.
func (r *bitReader) take(depth int) int {
	rest := byteBits - depth - r.done%byteBits
	n := r.bytes[r.done/byteBits] >> rest & topOf(depth)
	r.done += depth
	return n
}

// validDepth reports whether numbers may have a depth.
func validDepth(depth int) bool {
	switch depth {
	case 1, 2, 4, 8:
		return true
	}
	return false
}

// topOf returns the greatest number of a valid depth.
func topOf(depth int) int {
	return 1<<depth - 1
}

// packedSize returns the number of bytes of count numbers of a depth.
func packedSize(count int, depth int) int {
	return (count*depth + byteBits - 1) / byteBits
}

// PackRow returns the bytes of numbers of a depth.
func PackRow(list []int, depth int) []int {
	if !validDepth(depth) || len(list) > MaxRow {
		return nil
	}
	var w bitWriter
	for _, n := range list {
		if !inRange(n, 0, topOf(depth)) {
			return nil
		}
		w.put(n, depth)
	}
	return w.bytes
}

// UnpackRow returns the numbers of bytes.
func UnpackRow(list []int, depth int, count int) ([]int, bool) {
	if !validDepth(depth) || !inRange(count, 0, MaxRow) || len(list) != packedSize(count, depth) {
		return nil, false
	}
	r := bitReader{bytes: list}
	row := make([]int, count)
	for i := range row {
		row[i] = r.take(depth)
	}
	// Packing again finds bits behind the last number and numbers that are
	// not bytes: neither comes back.
	if !slices.Equal(PackRow(row, depth), list) {
		return nil, false
	}
	return row, true
}

// ReduceDepth returns a number reduced to a depth.
func ReduceDepth(n int, depth int) int {
	if !validDepth(depth) || !inRange(n, 0, maxNumber) {
		return -1
	}
	// There are no halves: twice the product is even, and 255 is odd.
	return divideNearest(n*topOf(depth), maxNumber)
}

// ExpandDepth returns a number expanded from a depth.
func ExpandDepth(n int, depth int) int {
	if !validDepth(depth) || !inRange(n, 0, topOf(depth)) {
		return -1
	}
	return maxNumber * n / topOf(depth)
}
