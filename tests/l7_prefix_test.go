package tests

import (
	"math"
	"slices"
	"strconv"
	"strings"
	"testing"

	"loop.example/pixelworks/impl"
)

// countLists returns counts of 1 to 16 symbols: all small ones of few symbols, equal, random and very uneven ones.
func countLists() [][]int {
	var out [][]int
	for code := range 6 * 6 * 6 * 6 {
		out = append(out, []int{code % 6, code / 6 % 6, code / 36 % 6, code / 216})
	}
	for count := 1; count <= 16; count++ {
		out = append(out, make([]int, count), slices.Repeat([]int{1}, count), slices.Repeat([]int{9999}, count), growing(count))
		for top := 1; top <= 9999; top = 3*top + 1 {
			out = append(out, numbers(count+top, count, top))
		}
		alone := make([]int, count)
		alone[count/2] = 9999
		out = append(out, alone)
	}
	return out
}

// growing returns counts of which each is the sum of the two before it. Their codes are as long as can be.
func growing(count int) []int {
	out := []int{1, 1}
	for len(out) < count {
		out = append(out, out[len(out)-1]+out[len(out)-2])
	}
	return out[:count]
}

// treeLengths returns the lengths of codes by joining nodes in a plain list, as the document says it.
func treeLengths(counts []int) []int {
	lengths := make([]int, len(counts))
	var weights []int
	var symbols [][]int
	for symbol, count := range counts {
		if count > 0 {
			weights, symbols = append(weights, count), append(symbols, []int{symbol})
		}
	}
	if len(weights) == 1 {
		lengths[symbols[0][0]] = 1
	}
	for len(weights) > 1 {
		weight, joined := 0, []int{}
		for range 2 {
			i := slices.Index(weights, slices.Min(weights))
			weight, joined = weight+weights[i], append(joined, symbols[i]...)
			weights, symbols = slices.Delete(weights, i, i+1), slices.Delete(symbols, i, i+1)
		}
		for _, symbol := range joined {
			lengths[symbol]++
		}
		weights, symbols = append(weights, weight), append(symbols, joined)
	}
	return lengths
}

func TestCodeLengths(t *testing.T) {
	for _, counts := range countLists() {
		if got := impl.CodeLengths(counts); !slices.Equal(got, treeLengths(counts)) {
			t.Fatalf("CodeLengths(%v) = %v, not %v", counts, got, treeLengths(counts))
		}
	}
	for _, c := range [][2][]int{
		{{0}, {0}}, {{5}, {1}}, {{9999}, {1}}, {{0, 0, 0}, {0, 0, 0}}, {{0, 7, 0}, {0, 1, 0}}, {{3, 0, 9}, {1, 0, 1}},
		{{1, 1, 1}, {2, 2, 1}}, {{2, 1, 1}, {1, 2, 2}}, {{1, 1, 2, 2}, {2, 2, 2, 2}}, {{1, 1, 1, 1, 1}, {3, 3, 2, 2, 2}},
		{{2, 2, 1, 1, 2}, {2, 2, 3, 3, 2}}, {{1, 2, 3, 3}, {2, 2, 2, 2}}, {{3, 4, 2, 1}, {2, 1, 3, 3}},
		{growing(16), {15, 15, 14, 13, 12, 11, 10, 9, 8, 7, 6, 5, 4, 3, 2, 1}},
		{make([]int, 16), make([]int, 16)}, {slices.Repeat([]int{9999}, 16), slices.Repeat([]int{4}, 16)},
	} {
		if got := impl.CodeLengths(c[0]); !slices.Equal(got, c[1]) {
			t.Errorf("CodeLengths(%v) = %v, not %v", c[0], got, c[1])
		}
	}
}

func TestCodeLengthsFail(t *testing.T) {
	for _, counts := range badNumbers(9999) {
		if got := impl.CodeLengths(counts); len(got) > 0 {
			t.Errorf("CodeLengths(%v) = %v", counts, got)
		}
	}
}

// badNumbers returns lists that are not 1 to 16 numbers in 0..top.
func badNumbers(top int) [][]int {
	out := [][]int{nil, {}, make([]int, 17), slices.Repeat([]int{top}, 17), make([]int, 1000)}
	for _, n := range []int{-1, top + 1, math.MaxInt, math.MinInt} {
		out = append(out, []int{n}, []int{n, 2, 2}, []int{2, n, 2}, []int{2, 2, n}, append(make([]int, 15), n))
	}
	return out
}

// Promise 31: CodeLengths of at least two counts that are not 0 have codes whose parts of all texts, 2 to the power of minus the length, add up to 1.
func TestP31CodesFillAllRoom(t *testing.T) {
	for _, counts := range countLists() {
		used := 0
		for _, count := range counts {
			used += min(count, 1)
		}
		if used < 2 {
			continue
		}
		lengths := impl.CodeLengths(counts)
		if len(lengths) != len(counts) {
			t.Fatalf("CodeLengths(%v) = %v", counts, lengths)
		}
		room := 0
		for symbol, length := range lengths {
			if (length == 0) != (counts[symbol] == 0) || length > 15 {
				t.Fatalf("CodeLengths(%v) = %v", counts, lengths)
			}
			if length > 0 {
				room += 1 << (16 - length)
			}
		}
		if room != 1<<16 {
			t.Fatalf("CodeLengths(%v) = %v fill %d of 65536 parts", counts, lengths, room)
		}
	}
}

// Promise 32: if the count of a symbol is greater than that of another one that is not 0, its length in CodeLengths is not greater.
func TestP32FrequentSymbolsHaveShortCodes(t *testing.T) {
	for _, counts := range countLists() {
		lengths := impl.CodeLengths(counts)
		for i := range counts {
			for j := range counts {
				if counts[i] > counts[j] && counts[j] > 0 && lengths[i] > lengths[j] {
					t.Fatalf("CodeLengths(%v) = %v", counts, lengths)
				}
			}
		}
	}
}

// Promise 143: CodeLengths of all counts doubled is the same.
func TestP143OnlyRatiosCount(t *testing.T) {
	for _, counts := range countLists() {
		doubled := []int{}
		for _, count := range counts {
			doubled = append(doubled, 2*count)
		}
		lengths := impl.CodeLengths(doubled)
		if slices.Max(doubled) > 9999 {
			if len(lengths) > 0 {
				t.Fatalf("CodeLengths(%v) = %v", doubled, lengths)
			}
		} else if len(lengths) == 0 || !slices.Equal(lengths, impl.CodeLengths(counts)) {
			t.Fatalf("CodeLengths(%v) = %v", doubled, lengths)
		}
	}
}

// lengthLists returns lengths that have codes: those of counts, and others that leave room.
func lengthLists() [][]int {
	var out [][]int
	for _, counts := range countLists() {
		out = append(out, treeLengths(counts))
	}
	return append(out, []int{16}, []int{0, 16, 3}, []int{1, 2, 3}, []int{3, 2, 1}, []int{5, 5, 0, 2, 5}, []int{2, 0, 2, 4, 4, 2},
		slices.Repeat([]int{16}, 16), []int{1, 2, 3, 4, 5, 6, 7, 8, 9, 10, 11, 12, 13, 14, 15, 16}, []int{1, 0, 16, 0, 16, 2})
}

// roomCodes returns the codes of lengths, each at the beginning of the room that the shorter and earlier ones leave.
func roomCodes(lengths []int) []int {
	codes := make([]int, len(lengths))
	taken := 0
	for length := 1; length <= 16; length++ {
		for symbol := range lengths {
			if lengths[symbol] == length {
				codes[symbol] = taken >> (16 - length)
				taken += 1 << (16 - length)
			}
		}
	}
	return codes
}

// codeText returns the digits of a code.
func codeText(code int, length int) string {
	s := strconv.FormatInt(int64(code), 2)
	return (strings.Repeat("0", length) + s)[len(s):]
}

// codeTexts returns the digits of the codes of lengths, "" for symbols without a code.
func codeTexts(codes []int, lengths []int) []string {
	out := make([]string, len(lengths))
	for symbol, length := range lengths {
		if length > 0 {
			out[symbol] = codeText(codes[symbol], length)
		}
	}
	return out
}

func TestCanonicalCodes(t *testing.T) {
	for _, lengths := range lengthLists() {
		if got := impl.CanonicalCodes(lengths); !slices.Equal(got, roomCodes(lengths)) {
			t.Fatalf("CanonicalCodes(%v) = %v, not %v", lengths, got, roomCodes(lengths))
		}
	}
	for _, c := range [][2][]int{
		{{0}, {0}}, {{1}, {0}}, {{16}, {0}}, {{1, 1}, {0, 1}}, {{0, 1}, {0, 0}}, {{2, 1, 2}, {2, 0, 3}}, {{3, 0, 3, 1}, {4, 0, 5, 0}},
		{{16, 16, 15}, {2, 3, 0}}, {slices.Repeat([]int{4}, 16), {0, 1, 2, 3, 4, 5, 6, 7, 8, 9, 10, 11, 12, 13, 14, 15}},
	} {
		if got := impl.CanonicalCodes(c[0]); !slices.Equal(got, c[1]) {
			t.Errorf("CanonicalCodes(%v) = %v, not %v", c[0], got, c[1])
		}
	}
}

// badLengths returns lengths that have no codes.
func badLengths() [][]int {
	return append(badNumbers(16), []int{1, 1, 1}, []int{1, 1, 16}, []int{16, 1, 1}, []int{1, 2, 2, 16}, []int{1, 0, 1, 0, 2}, []int{2, 2, 2, 2, 3},
		slices.Repeat([]int{3}, 9), append(slices.Repeat([]int{4}, 15), 3), slices.Repeat([]int{1}, 16),
		[]int{1, 2, 3, 4, 5, 6, 7, 8, 9, 10, 11, 12, 13, 14, 15, 14})
}

func TestCanonicalCodesFail(t *testing.T) {
	for _, lengths := range badLengths() {
		if got := impl.CanonicalCodes(lengths); len(got) > 0 {
			t.Errorf("CanonicalCodes(%v) = %v", lengths, got)
		}
	}
}

// Promise 33: CanonicalCodes of symbols with different codes do not begin with each other.
func TestP33NoCodeIsTheBeginningOfAnotherOne(t *testing.T) {
	for _, lengths := range lengthLists() {
		texts := codeTexts(impl.CanonicalCodes(lengths), lengths)
		for i, a := range texts {
			for j, b := range texts {
				if i != j && a != "" && strings.HasPrefix(b, a) {
					t.Fatalf("CanonicalCodes(%v): %s begins with %s", lengths, b, a)
				}
			}
		}
	}
}

// Promise 144: filled up with zeros to MaxLength digits, a shorter code of CanonicalCodes is less than a longer one, and of equal lengths the codes ascend.
func TestP144ShortCodesComeFirst(t *testing.T) {
	for _, lengths := range lengthLists() {
		codes := impl.CanonicalCodes(lengths)
		for i, a := range lengths {
			for j, b := range lengths {
				if a == 0 || b == 0 || a > b || a == b && i >= j {
					continue
				}
				if codes[i]<<(16-a) >= codes[j]<<(16-b) {
					t.Fatalf("CanonicalCodes(%v) = %v: symbol %d is not before symbol %d", lengths, codes, i, j)
				}
			}
		}
		for symbol, length := range lengths {
			if codes[symbol] < 0 || codes[symbol] >= 1<<length {
				t.Fatalf("CanonicalCodes(%v) = %v", lengths, codes)
			}
		}
	}
}

// encodes fails unless EncodeSymbols returns a text, and DecodeSymbols the symbols.
func encodes(t *testing.T, list []int, lengths []int, s string) {
	t.Helper()
	if got, ok := impl.EncodeSymbols(list, lengths); !ok || got != s {
		t.Fatalf("EncodeSymbols(%v, %v) = %q, %v", list, lengths, got, ok)
	}
	if got, ok := impl.DecodeSymbols(s, lengths); !ok || !slices.Equal(got, list) {
		t.Fatalf("DecodeSymbols(%q, %v) = %v, %v", s, lengths, got, ok)
	}
}

// notEncoded fails unless EncodeSymbols fails.
func notEncoded(t *testing.T, list []int, lengths []int) {
	t.Helper()
	if got, ok := impl.EncodeSymbols(list, lengths); ok || got != "" {
		t.Errorf("EncodeSymbols(%v, %v) = %q, %v", list, lengths, got, ok)
	}
}

// notDecoded fails unless DecodeSymbols fails.
func notDecoded(t *testing.T, s string, lengths []int) {
	t.Helper()
	if got, ok := impl.DecodeSymbols(s, lengths); ok || len(got) > 0 {
		t.Errorf("DecodeSymbols(%q, %v) = %v, %v", s, lengths, got, ok)
	}
}

// Promise 34: DecodeSymbols of EncodeSymbols are the symbols.
func TestP34SymbolsCanBeRead(t *testing.T) {
	for seed, lengths := range lengthLists() {
		encodes(t, nil, lengths, "")
		texts := codeTexts(roomCodes(lengths), lengths)
		var list []int
		s := ""
		for _, symbol := range numbers(seed, 50, len(lengths)-1) {
			if texts[symbol] != "" {
				list, s = append(list, symbol), s+texts[symbol]
			}
		}
		encodes(t, list, lengths, s)
	}
	encodes(t, []int{0, 0, 0}, []int{1}, "000")
	encodes(t, []int{1, 1}, []int{0, 3, 0}, "000000")
	encodes(t, []int{2, 0, 1}, []int{2, 2, 1}, "01011")
	encodes(t, make([]int, 1200), []int{1}, strings.Repeat("0", 1200))
	encodes(t, slices.Repeat([]int{3}, 1200), []int{16, 16, 16, 16}, strings.Repeat("0000000000000011", 1200))
}

func TestP34EncodeSymbolsFails(t *testing.T) {
	lengths := []int{1, 3, 3, 0, 2}
	for _, n := range []int{-1, 3, 5, 16, math.MaxInt, math.MinInt} {
		notEncoded(t, []int{n}, lengths)
		notEncoded(t, []int{0, n, 1}, lengths)
		notEncoded(t, []int{0, 1, n}, lengths)
	}
	notEncoded(t, []int{0}, []int{0})
	notEncoded(t, []int{1}, []int{1})
	notEncoded(t, make([]int, 1201), []int{1})
	notEncoded(t, make([]int, 1201), []int{16, 16})
	notEncoded(t, make([]int, 9999), []int{1, 1})
	for _, bad := range badLengths() {
		notEncoded(t, nil, bad)
		notEncoded(t, []int{0}, bad)
		notEncoded(t, []int{1, 0}, bad)
	}
}

// Promise 35: EncodeSymbols of what DecodeSymbols reads is the text.
func TestP35WhatIsReadAsSymbolsAreSymbols(t *testing.T) {
	for _, lengths := range [][]int{{1, 3, 3, 0, 2}, {1}, {0, 2, 1}, {2, 2, 2}, {0}, {4, 4, 4, 4, 1}, {3, 0, 3, 3}} {
		texts := codeTexts(roomCodes(lengths), lengths)
		for count := range 11 {
			for bits := range 1 << count {
				s := codeText(bits, count)
				want := isCoded(s, texts)
				list, ok := impl.DecodeSymbols(s, lengths)
				if ok != want {
					t.Fatalf("DecodeSymbols(%q, %v) = %v, %v", s, lengths, list, ok)
				}
				if ok {
					encodes(t, list, lengths, s)
				} else {
					notDecoded(t, s, lengths)
				}
			}
		}
	}
}

// isCoded reports whether a text consists of codes, by trying all of them at each place.
func isCoded(s string, texts []string) bool {
	if s == "" {
		return true
	}
	for _, text := range texts {
		if text != "" && strings.HasPrefix(s, text) && isCoded(s[len(text):], texts) {
			return true
		}
	}
	return false
}

func TestP35DecodeSymbolsFails(t *testing.T) {
	lengths := []int{1, 3, 3, 0, 2}
	for _, s := range []string{"1", "11", "01", "0 ", " 0", "2", "0a0", "0\x00", "00\n", "-0", "１", "0110x", strings.Repeat("9", 100000), strings.Repeat("1", 100000)} {
		notDecoded(t, s, lengths)
	}
	notDecoded(t, "1", []int{1})
	notDecoded(t, "01", []int{1})
	notDecoded(t, "0", []int{0})
	notDecoded(t, "0", []int{0, 0})
	notDecoded(t, "0", []int{2, 2})
	notDecoded(t, strings.Repeat("0", 1201), []int{1})
	notDecoded(t, strings.Repeat("0", 1201), lengths)
	notDecoded(t, strings.Repeat("0", 1200)+"10", lengths)
	notDecoded(t, strings.Repeat("0", 1200)+"1", lengths)
	notDecoded(t, strings.Repeat("0", 100000), lengths)
	notDecoded(t, strings.Repeat("0", 16*1201), []int{16})
	for _, bad := range badLengths() {
		notDecoded(t, "", bad)
		notDecoded(t, "0", bad)
		notDecoded(t, "10", bad)
	}
}

func TestPrefixCodesKeepTheirArguments(t *testing.T) {
	counts, list := roomy([]int{5, 1, 1, 0, 2}), roomy([]int{4, 0, 2, 1})
	keeps(t, "CodeLengths", func() [][]int { return [][]int{impl.CodeLengths(counts)} }, counts)
	lengths := roomy(impl.CodeLengths(counts))
	keeps(t, "CanonicalCodes", func() [][]int { return [][]int{impl.CanonicalCodes(lengths)} }, lengths)
	keeps(t, "EncodeSymbols", func() [][]int {
		s, _ := impl.EncodeSymbols(list, lengths)
		return [][]int{{len(s)}}
	}, list, lengths)
	keeps(t, "DecodeSymbols", func() [][]int {
		out, _ := impl.DecodeSymbols("100111110", lengths)
		return [][]int{out}
	}, lengths)
}
