package tests

import (
	"math"
	"slices"
	"testing"

	"loop.example/pixelworks/impl"
)

// byteLists returns lists of bytes with few and with many matches, of 0 to 1200 bytes.
func byteLists() [][]int {
	out := [][]int{nil, {0}, {255}, {7, 7}, {7, 7, 7}, {7, 7, 7, 7}, {1, 2, 3, 1, 2}, {1, 2, 3, 1, 2, 3}, numbers(1, 1200, 255)}
	for top := 1; top <= 4; top++ {
		out = append(out, numbers(top, 40, top), numbers(top+10, 300, top))
	}
	for _, period := range []int{1, 2, 3, 17, 18, 19, 63, 64, 65, 66} {
		one := numbers(period, period, 255)
		out = append(out, slices.Repeat(one, 3), slices.Repeat(one, 1200/period), append(slices.Repeat(one, 2), numbers(9, 20, 3)...))
	}
	return append(out, make([]int, 1200), numbers(3, 1200, 2))
}

// notBytes returns lists that are not at most 1200 bytes.
func notBytes() [][]int {
	out := [][]int{make([]int, 1201), numbers(1, 1201, 255), make([]int, 5000)}
	for _, n := range []int{-1, 256, math.MaxInt, math.MinInt} {
		for _, i := range []int{0, 4, 8} {
			bad := []int{1, 2, 3, 1, 2, 3, 1, 2, 3}
			bad[i] = n
			out = append(out, bad)
		}
		out = append(out, []int{n})
	}
	return out
}

// equalRun returns how many bytes from a place on are equal to those earlier by a distance, up to 18.
func equalRun(list []int, at int, back int) int {
	n := 0
	for n < 18 && at+n < len(list) && list[at+n] == list[at+n-back] {
		n++
	}
	return n
}

// longestOf returns the longest match at a place, by trying all distances.
func longestOf(list []int, at int) (int, int) {
	length, distance := 0, 0
	for back := 1; back <= 64 && back <= at; back++ {
		if n := equalRun(list, at, back); n >= 3 && n > length {
			length, distance = n, back
		}
	}
	return length, distance
}

// matches fails unless LongestMatch has a length and a distance.
func matches(t *testing.T, list []int, at int, length int, back int) {
	t.Helper()
	if n, distance := impl.LongestMatch(list, at); n != length || distance != back {
		t.Errorf("LongestMatch of %d bytes at %d = %d, %d, not %d, %d", len(list), at, n, distance, length, back)
	}
}

func TestLongestMatch(t *testing.T) {
	one := numbers(5, 64, 255)
	matches(t, []int{5}, 0, 0, 0)
	matches(t, []int{5, 5}, 1, 0, 0)
	matches(t, []int{5, 5, 5}, 1, 0, 0)
	matches(t, []int{5, 5, 5, 5}, 0, 0, 0)
	matches(t, []int{5, 5, 5, 5}, 1, 3, 1)                            // overlaps its own source
	matches(t, []int{5, 5, 5, 5, 5}, 2, 3, 1)                         // the distance 2 is as good
	matches(t, []int{1, 2, 3, 1, 2, 9}, 3, 0, 0)                      // two bytes only
	matches(t, []int{1, 2, 3, 1, 2, 3, 9}, 3, 3, 3)                   // three bytes
	matches(t, []int{1, 2, 3, 1, 2, 3, 1, 2, 9}, 3, 5, 3)             // longer than the distance
	matches(t, []int{1, 2, 3, 4, 0, 1, 2, 3, 0, 1, 2, 3, 4}, 9, 4, 9) // the farther one is longer
	matches(t, []int{1, 2, 3, 4, 0, 1, 2, 3, 0, 1, 2, 3, 5}, 9, 3, 4) // the nearer one is as long
	matches(t, []int{1, 2, 3, 5, 0, 1, 2, 3, 4, 1, 2, 3, 4}, 9, 4, 4) // the nearer one is longer
	matches(t, make([]int, 19), 1, 18, 1)
	matches(t, make([]int, 20), 1, 18, 1)
	matches(t, make([]int, 18), 1, 17, 1)
	matches(t, slices.Concat(one, one[:3]), 64, 3, 64)
	matches(t, slices.Concat(one, one[:18]), 64, 18, 64)
	matches(t, slices.Concat(one, one[:19]), 64, 18, 64)
	matches(t, slices.Concat(one, one[:19]), 65, 18, 64)
	matches(t, slices.Concat(one, []int{1}, one[:18]), 65, 0, 0) // at the distance 65
	matches(t, slices.Concat([]int{1}, one, one[:18]), 65, 18, 64)
}

func TestLongestMatchAtTheEnd(t *testing.T) {
	list := make([]int, 1200)
	matches(t, list, 1182, 18, 1)
	matches(t, list, 1183, 17, 1)
	matches(t, list, 1197, 3, 1)
	matches(t, list, 1198, 0, 0)
	matches(t, list, 1199, 0, 0)
	for _, at := range []int{-1, 1200, 1201, math.MaxInt, math.MinInt} {
		matches(t, list, at, -1, -1)
		matches(t, nil, at, -1, -1)
	}
	matches(t, nil, 0, -1, -1)
	matches(t, []int{3}, 1, -1, -1)
	matches(t, []int{3, 3, 3, 3}, 4, -1, -1)
	matches(t, []int{3, 3, 3, 3}, 5, -1, -1)
	for _, bad := range notBytes() {
		for _, at := range []int{-1, 0, 3, 8, len(bad) - 1, len(bad)} {
			matches(t, bad, at, -1, -1)
		}
	}
}

// Promise 25: the bytes of LongestMatch are equal to those earlier by the distance, and the next ones are not, unless it has MaxMatch bytes or ends the list.
func TestP25MatchesAreEqualBytes(t *testing.T) {
	for _, list := range byteLists() {
		for at := range list {
			length, back := impl.LongestMatch(list, at)
			if length == 0 && back == 0 {
				continue
			}
			if length < 3 || length > 18 || back < 1 || back > 64 || back > at || at+length > len(list) {
				t.Fatalf("LongestMatch of %v at %d = %d, %d", list, at, length, back)
			}
			for i := at; i < at+length; i++ {
				if list[i] != list[i-back] {
					t.Fatalf("LongestMatch of %v at %d = %d, %d has other bytes", list, at, length, back)
				}
			}
			end := at + length
			if length < 18 && end < len(list) && list[end] == list[end-back] {
				t.Fatalf("LongestMatch of %v at %d = %d, %d could go on", list, at, length, back)
			}
		}
	}
}

// Promise 26: no distance allows more equal bytes than LongestMatch, up to MaxMatch.
func TestP26NoMatchIsLonger(t *testing.T) {
	for _, list := range byteLists() {
		for at := range list {
			length, back := impl.LongestMatch(list, at)
			wantLength, wantBack := longestOf(list, at)
			if length != wantLength || back != wantBack {
				t.Fatalf("LongestMatch of %v at %d = %d, %d, not %d, %d", list, at, length, back, wantLength, wantBack)
			}
		}
	}
}

// greedyOf returns the tokens that take the longest match, by trying all distances.
func greedyOf(list []int) []impl.Token {
	var out []impl.Token
	for at := 0; at < len(list); {
		length, back := longestOf(list, at)
		if length == 0 {
			out = append(out, impl.Token{Byte: list[at]})
			at++
		} else {
			out = append(out, impl.Token{Length: length, Back: back})
			at += length
		}
	}
	return out
}

// expands fails unless ExpandTokens returns bytes.
func expands(t *testing.T, tokens []impl.Token, list []int) {
	t.Helper()
	if got, ok := impl.ExpandTokens(tokens); !ok || !slices.Equal(got, list) {
		t.Fatalf("ExpandTokens of %v = %v, %v", tokens, got, ok)
	}
}

// notExpanded fails unless ExpandTokens fails.
func notExpanded(t *testing.T, tokens ...impl.Token) {
	t.Helper()
	if got, ok := impl.ExpandTokens(tokens); ok || len(got) > 0 {
		t.Errorf("ExpandTokens of %d tokens, the last one %v, = %v, %v", len(tokens), tokens[len(tokens)-1], got, ok)
	}
}

// Promise 27: ExpandTokens of GreedyTokens are the bytes.
func TestP27TokensMakeUpTheBytes(t *testing.T) {
	for _, list := range byteLists() {
		tokens := impl.GreedyTokens(list)
		expands(t, tokens, list)
		if !slices.Equal(tokens, greedyOf(list)) {
			t.Fatalf("GreedyTokens of %v = %v", list, tokens)
		}
	}
	want := []impl.Token{{Byte: 4}, {Length: 18, Back: 1}, {Byte: 4}, {Byte: 4}}
	if got := impl.GreedyTokens(slices.Repeat([]int{4}, 21)); !slices.Equal(got, want) {
		t.Errorf("GreedyTokens of equal bytes = %v", got)
	}
	for _, bad := range notBytes() {
		if got := impl.GreedyTokens(bad); len(got) > 0 {
			t.Errorf("GreedyTokens of %d numbers = %v", len(bad), got)
		}
	}
}

// costOfTokens returns the cost of tokens.
func costOfTokens(tokens []impl.Token) int {
	cost := 0
	for _, token := range tokens {
		cost += 11
		if token.Length == 0 {
			cost -= 2
		}
	}
	return cost
}

// Promise 28: ExpandTokens of BestTokens are the bytes, and they cost at most as much as GreedyTokens and as single bytes.
func TestP28TheBestTokensMakeUpTheBytes(t *testing.T) {
	better := 0
	for _, list := range byteLists() {
		tokens := impl.BestTokens(list)
		expands(t, tokens, list)
		cost, greedy := impl.TokenCost(tokens), impl.TokenCost(impl.GreedyTokens(list))
		if cost != costOfTokens(tokens) || cost > greedy || cost > 9*len(list) {
			t.Fatalf("BestTokens of %v cost %d", list, cost)
		}
		if cost < greedy {
			better++
		}
	}
	if better == 0 {
		t.Error("GreedyTokens are as good as BestTokens everywhere")
	}
	for _, bad := range notBytes() {
		if got := impl.BestTokens(bad); len(got) > 0 {
			t.Errorf("BestTokens of %d numbers = %v", len(bad), got)
		}
	}
}

func TestP28BestTokensOfKnownBytes(t *testing.T) {
	for _, c := range []struct {
		list []int
		want []impl.Token
	}{
		{nil, nil},
		{[]int{9, 9, 9}, []impl.Token{{Byte: 9}, {Byte: 9}, {Byte: 9}}},
		{[]int{9, 9, 9, 9}, []impl.Token{{Byte: 9}, {Length: 3, Back: 1}}},
		// A byte and a long match cost less than the match of three bytes that comes first.
		{[]int{1, 2, 3, 0, 2, 3, 4, 5, 6, 1, 2, 3, 4, 5, 6}, append(singles([]int{1, 2, 3, 0, 2, 3, 4, 5, 6, 1}), impl.Token{Length: 5, Back: 6})},
		// Of two matches for 20 equal bytes, the longer one comes first if that leaves three bytes.
		{slices.Repeat([]int{8}, 22), []impl.Token{{Byte: 8}, {Length: 18, Back: 1}, {Length: 3, Back: 1}}},
		{slices.Repeat([]int{8}, 21), []impl.Token{{Byte: 8}, {Length: 17, Back: 1}, {Length: 3, Back: 1}}},
		{slices.Repeat([]int{8}, 20), []impl.Token{{Byte: 8}, {Length: 18, Back: 1}, {Byte: 8}}},
		// A part of a match keeps the distance of the longest match, although a nearer one is long enough.
		{[]int{1, 2, 3, 4, 0, 4, 5, 6, 9, 1, 2, 3, 8, 1, 2, 3, 4, 5, 6}, append(singles([]int{1, 2, 3, 4, 0, 4, 5, 6, 9}),
			impl.Token{Length: 3, Back: 9}, impl.Token{Byte: 8}, impl.Token{Length: 3, Back: 13}, impl.Token{Length: 3, Back: 11})},
	} {
		if got := impl.BestTokens(c.list); !slices.Equal(got, c.want) {
			t.Errorf("BestTokens(%v) = %v", c.list, got)
		}
	}
}

// search finds the best tokens among all ways to divide bytes. It tries long matches first and a byte last, so that the first way with the least cost is the right one.
type search struct {
	list  []int
	taken []impl.Token
	best  []impl.Token
	cost  int
}

// from tries all ways to go on at a place, behind tokens with a cost.
func (s *search) from(at int, cost int) {
	if cost >= s.cost {
		return
	}
	if at == len(s.list) {
		s.best, s.cost = slices.Clone(s.taken), cost
		return
	}
	length, back := longestOf(s.list, at)
	for ; length >= 3; length-- {
		s.taken = append(s.taken, impl.Token{Length: length, Back: back})
		s.from(at+length, cost+11)
		s.taken = s.taken[:len(s.taken)-1]
	}
	s.taken = append(s.taken, impl.Token{Byte: s.list[at]})
	s.from(at+1, cost+9)
	s.taken = s.taken[:len(s.taken)-1]
}

// bestOf returns the best tokens of few bytes.
func bestOf(list []int) []impl.Token {
	s := search{list: list, cost: math.MaxInt}
	s.from(0, 0)
	return s.best
}

// leastCost returns the least cost of dividing bytes, from the first place on.
func leastCost(list []int) int {
	costs := make([]int, len(list)+1)
	for at := range list {
		costs[at+1] = 9 * (at + 1)
	}
	for at := range list {
		costs[at+1] = min(costs[at+1], costs[at]+9)
		length, _ := longestOf(list, at)
		for n := 3; n <= length; n++ {
			costs[at+n] = min(costs[at+n], costs[at]+11)
		}
	}
	return costs[len(list)]
}

// Promise 56: TokenCost of BestTokens is the least cost of dividing the bytes, where each place takes a byte, or a match of any length from MinMatch up to LongestMatch.
func TestP56NoTokensCostLess(t *testing.T) {
	for _, list := range byteLists() {
		if cost := impl.TokenCost(impl.BestTokens(list)); cost != leastCost(list) {
			t.Fatalf("BestTokens of %v cost %d, not %d", list, cost, leastCost(list))
		}
	}
}

func TestP56TheFirstOnesOfTheBestTokens(t *testing.T) {
	for count := range 13 {
		for bits := range 1 << count {
			list := make([]int, count)
			for i := range list {
				list[i] = bits >> i & 1
			}
			if got := impl.BestTokens(list); !slices.Equal(got, bestOf(list)) {
				t.Fatalf("BestTokens(%v) = %v, not %v", list, got, bestOf(list))
			}
		}
	}
	for seed := range 400 {
		list := numbers(seed, 14+seed%12, 1+seed%3)
		if got := impl.BestTokens(list); !slices.Equal(got, bestOf(list)) {
			t.Fatalf("BestTokens(%v) = %v, not %v", list, got, bestOf(list))
		}
	}
}

// Promise 29: GreedyTokens of ExpandTokens make up the same bytes, and there are as many as the tokens say.
func TestP29ExpandedBytesCanBeFoundAgain(t *testing.T) {
	for seed := range 200 {
		tokens, count := randomTokens(seed)
		list, ok := impl.ExpandTokens(tokens)
		if !ok || len(list) != count {
			t.Fatalf("ExpandTokens of %v = %v, %v, not %d bytes", tokens, list, ok, count)
		}
		expands(t, impl.GreedyTokens(list), list)
	}
	expands(t, nil, nil)
	expands(t, []impl.Token{{Byte: 0}, {Byte: 255}}, []int{0, 255})
	expands(t, []impl.Token{{Byte: 6}, {Length: 3, Back: 1}}, []int{6, 6, 6, 6})
	expands(t, []impl.Token{{Byte: 6}, {Byte: 7}, {Length: 5, Back: 2}}, []int{6, 7, 6, 7, 6, 7, 6})
	expands(t, []impl.Token{{Byte: 6}, {Byte: 7}, {Length: 18, Back: 1}}, append([]int{6}, slices.Repeat([]int{7}, 19)...))
	expands(t, append(singles(numbers(2, 64, 255)), impl.Token{Length: 3, Back: 64}), append(numbers(2, 64, 255), numbers(2, 64, 255)[:3]...))
}

// randomTokens returns valid tokens, and the number of their bytes.
func randomTokens(seed int) ([]impl.Token, int) {
	var out []impl.Token
	count := 0
	random := numbers(seed, 60, 9999)
	for i := 0; i < len(random); i += 2 {
		if count == 0 || random[i]%3 == 0 {
			out = append(out, impl.Token{Byte: random[i+1] % 256})
			count++
		} else {
			out = append(out, impl.Token{Length: 3 + random[i]%16, Back: 1 + random[i+1]%min(count, 64)})
			count += 3 + random[i]%16
		}
	}
	return out, count
}

// singles returns each byte as a token.
func singles(list []int) []impl.Token {
	var out []impl.Token
	for _, n := range list {
		out = append(out, impl.Token{Byte: n})
	}
	return out
}

func TestP29TokensThatAreNotValid(t *testing.T) {
	first := impl.Token{Byte: 1}
	for _, n := range []int{-1, 256, math.MaxInt, math.MinInt} {
		notExpanded(t, impl.Token{Byte: n})
		notExpanded(t, first, impl.Token{Byte: n})
	}
	for _, n := range []int{-1, 1, 2, 64, math.MaxInt, math.MinInt} {
		notExpanded(t, first, impl.Token{Back: n})
		notExpanded(t, first, impl.Token{Byte: 5, Back: n})
	}
	for _, n := range []int{-1, 1, 255, math.MaxInt, math.MinInt} {
		notExpanded(t, first, impl.Token{Byte: n, Length: 3, Back: 1})
	}
	for _, n := range []int{-3, -1, 1, 2, 19, math.MaxInt, math.MinInt} {
		notExpanded(t, first, impl.Token{Length: n, Back: 1})
		notExpanded(t, first, impl.Token{Length: n})
	}
	for _, n := range []int{0, -1, 2, 65, math.MaxInt, math.MinInt} {
		notExpanded(t, first, impl.Token{Length: 3, Back: n})
	}
	notExpanded(t, impl.Token{Length: 3, Back: 1})
	notExpanded(t, impl.Token{Length: 3, Back: 1}, first)
	notExpanded(t, append(singles(make([]int, 70)), impl.Token{Length: 3, Back: 65})...)
	notExpanded(t, append(singles(make([]int, 63)), impl.Token{Length: 3, Back: 64})...)
}

func TestP29TokensOfTooManyBytes(t *testing.T) {
	expands(t, singles(make([]int, 1200)), make([]int, 1200))
	notExpanded(t, singles(make([]int, 1201))...)
	for _, c := range [][2]int{{1182, 18}, {1197, 3}, {1190, 10}} {
		match := impl.Token{Length: c[1], Back: 1}
		expands(t, append(singles(make([]int, c[0])), match), make([]int, 1200))
		notExpanded(t, append(singles(make([]int, c[0]+1)), match)...)
		notExpanded(t, append(singles(make([]int, c[0])), match, impl.Token{})...)
	}
	notExpanded(t, append(singles(make([]int, 1200)), impl.Token{Length: 3, Back: 1})...)
}

// costs fails unless TokenCost has a value.
func costs(t *testing.T, want int, tokens ...impl.Token) {
	t.Helper()
	if got := impl.TokenCost(tokens); got != want {
		t.Errorf("TokenCost of %d tokens = %d, not %d", len(tokens), got, want)
	}
}

// Promise 30: TokenCost of tokens is that of the first ones plus that of the others.
func TestP30CostsAddUp(t *testing.T) {
	for _, list := range byteLists() {
		tokens := impl.BestTokens(list)
		for i := 0; i <= len(tokens); i += 1 + len(tokens)/20 {
			if impl.TokenCost(tokens[:i])+impl.TokenCost(tokens[i:]) != impl.TokenCost(tokens) {
				t.Fatalf("TokenCost of %d and %d tokens", i, len(tokens)-i)
			}
		}
	}
	costs(t, 0)
	costs(t, 9, impl.Token{})
	costs(t, 11, impl.Token{Length: 3, Back: 1})
	costs(t, 49, impl.Token{Byte: 1}, impl.Token{Length: 18, Back: 1}, impl.Token{Byte: 5}, impl.Token{Byte: 255}, impl.Token{Length: 3, Back: 64})
}

func TestP30CostsOfTokensThatAreNotValid(t *testing.T) {
	for _, n := range []int{-1, 1, 2, 19, math.MaxInt, math.MinInt} {
		costs(t, 11, impl.Token{Length: n})
		costs(t, 11, impl.Token{Byte: n, Length: n, Back: n})
		costs(t, 9, impl.Token{Byte: n, Back: n})
	}
	costs(t, 9*1199, make([]impl.Token, 1199)...)
	costs(t, 9*1200, make([]impl.Token, 1200)...)
	costs(t, 9*1200, make([]impl.Token, 1201)...)
	costs(t, 9*1200, make([]impl.Token, 9999)...)
	match := impl.Token{Length: 3, Back: 1}
	costs(t, 9*1199+11, append(make([]impl.Token, 1199), match)...)
	costs(t, 9*1200, append(make([]impl.Token, 1200), match)...)
	costs(t, 9*1199+11, append([]impl.Token{match}, make([]impl.Token, 1200)...)...)
}

// Promise 142: equal bytes, at least four of them, cost less than single bytes as BestTokens.
func TestP142RepetitionsAreCheap(t *testing.T) {
	for count := 4; count <= 1200; count++ {
		list := slices.Repeat([]int{count % 256}, count)
		// Behind the first byte come matches of 18 bytes; of the rest, a single byte is a byte, and more are a match.
		want := 9 + (count-1)/18*11
		switch (count - 1) % 18 {
		case 0:
		case 1:
			want += 9
		default:
			want += 11
		}
		if cost := impl.TokenCost(impl.BestTokens(list)); cost >= 9*count || cost != want {
			t.Fatalf("%d equal bytes cost %d, not %d", count, cost, want)
		}
	}
}

func TestMatchesKeepTheirArguments(t *testing.T) {
	list := roomy(slices.Repeat([]int{1, 2, 3, 4}, 30))
	pairs := func(tokens []impl.Token) []int {
		out := []int{}
		for _, token := range tokens {
			out = append(out, token.Byte, token.Length, token.Back)
		}
		return out
	}
	keeps(t, "LongestMatch", func() [][]int {
		length, back := impl.LongestMatch(list, 9)
		return [][]int{{length, back}}
	}, list)
	keeps(t, "GreedyTokens", func() [][]int { return [][]int{pairs(impl.GreedyTokens(list))} }, list)
	keeps(t, "BestTokens", func() [][]int { return [][]int{pairs(impl.BestTokens(list))} }, list)
	tokens := append(impl.BestTokens(list), impl.Token{Byte: 5})
	before := slices.Clone(tokens)
	keeps(t, "ExpandTokens", func() [][]int {
		out, _ := impl.ExpandTokens(tokens)
		return [][]int{out}
	})
	impl.TokenCost(tokens)
	if !slices.Equal(tokens, before) {
		t.Error("ExpandTokens or TokenCost changed its tokens")
	}
	first, second := impl.BestTokens(list), impl.BestTokens(list)
	clear(first[:cap(first)])
	if slices.Equal(first, second) || !slices.Equal(second, impl.BestTokens(list)) {
		t.Error("BestTokens of two calls share memory")
	}
}
