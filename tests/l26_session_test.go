package tests

import (
	"math"
	"regexp"
	"slices"
	"strconv"
	"strings"
	"testing"

	"loop.example/pixelworks/impl"
)

// model is a session that draws pixel by pixel.
type model struct {
	image impl.Image
	there bool
}

// lineForms has the form of each command: words behind it may be any, but for spaces in them.
var lineForms = map[string]*regexp.Regexp{
	"new":    formOf("new", 3),
	"line":   formOf("line", 5),
	"disc":   formOf("disc", 4),
	"flood":  formOf("flood", 3),
	"scale":  formOf("scale", 2),
	"turn":   formOf("turn", 0),
	"mirror": formOf("mirror", 0),
	"show":   formOf("show", 0),
	"size":   formOf("size", 0),
}

// formOf returns the form of a command with a number of words behind it.
func formOf(name string, count int) *regexp.Regexp {
	return regexp.MustCompile(`(?s)\A` + name + strings.Repeat(`(?: ([^ ]*))`, count) + `\z`)
}

// numberForm matches a number in a line.
var numberForm = regexp.MustCompile(`\A(0|[1-9][0-9]?[0-9]?)\z`)

// readNumber returns the number that a word stands for.
func readNumber(word string) int {
	if !numberForm.MatchString(word) {
		return -1
	}
	n, _ := strconv.Atoi(word)
	return n
}

// readLine returns the name and the numbers of a command, and whether a line is one.
func readLine(line string) (string, []int, bool) {
	for name, form := range lineForms {
		words := form.FindStringSubmatch(line)
		if words == nil {
			continue
		}
		var list []int
		for _, word := range words[1:] {
			list = append(list, readNumber(word))
		}
		return name, list, true
	}
	return "", nil, false
}

// areIn reports whether all numbers are from least to most.
func areIn(least int, most int, list ...int) bool {
	return slices.Min(list) >= least && slices.Max(list) <= most
}

// fill fills pixels, if there are any, with a number.
func (s *model) fill(p pixels, n int) string {
	if p.count() == 0 || !areIn(0, 255, n) {
		return "no"
	}
	s.image = masked(s.image, runsOf(p), func(x int, y int) []int { return []int{n} })
	return "ok"
}

// create begins with a new image.
func (s *model) create(width int, height int, n int) string {
	if !areIn(1, 16, width, height) || !areIn(0, 255, n) {
		return "no"
	}
	s.image, s.there = onePlane(width, slices.Repeat([]int{n}, width*height)...), true
	return "ok"
}

// scale brings the image to another size.
func (s *model) scale(width int, height int) string {
	if !areIn(1, 16, width, height) {
		return "no"
	}
	s.image = onePlane(width, areaMeans(s.image, width, height)...)
	return "ok"
}

// do changes the image by a command that needs one.
func (s *model) do(name string, n []int) string {
	var p pixels
	switch name {
	case "line":
		if areIn(0, 15, n[:4]...) {
			p = linePixels(n[0], n[1], n[2], n[3])
		}
	case "disc":
		if areIn(0, 15, n[:2]...) && areIn(0, 16, n[2]) {
			p = discPixels(n[0], n[1], n[2])
		}
	case "flood":
		if isOn(s.image, n[0], n[1]) {
			p = reached(similarPixels(s.image, n[0], n[1], 0), n[0], n[1])
		}
	case "scale":
		return s.scale(n[0], n[1])
	case "turn":
		s.image, _ = stepped(s.image, impl.Step{Kind: impl.StepTurn})
		return "ok"
	case "mirror":
		s.image, _ = stepped(s.image, impl.Step{Kind: impl.StepMirror})
		return "ok"
	case "show":
		return textOf(s.image)
	case "size":
		return strconv.Itoa(len(fileOf(s.image.Width, s.image.Height, 1, impl.BestTokens(bestRows(s.image)))))
	}
	return s.fill(p, n[len(n)-1])
}

// execute returns the output of a line.
func (s *model) execute(line string) string {
	name, n, ok := readLine(line)
	switch {
	case ok && name == "new":
		return s.create(n[0], n[1], n[2])
	case ok && s.there:
		return s.do(name, n)
	}
	return "what"
}

// outputOf returns the output of a session.
func outputOf(lines []string) string {
	var s model
	output := ""
	for i, line := range lines {
		if i < 20 {
			output += s.execute(line) + "\n"
		}
	}
	return output
}

// prints checks the output of a session against the model, and returns it.
func prints(t *testing.T, lines ...string) string {
	t.Helper()
	got := impl.RunSession(lines)
	if want := outputOf(lines); got != want {
		t.Fatalf("RunSession(%q) = %q, not %q", lines, got, want)
	}
	return got
}

// says checks the last line of the output of a session.
func says(t *testing.T, want string, lines ...string) {
	t.Helper()
	got := strings.Split(prints(t, lines...), "\n")
	if len(got) < 2 || got[len(got)-1] != "" || got[len(got)-2] != want {
		t.Errorf("RunSession(%q) = %q, and does not end with %q", lines, got, want)
	}
}

// noNumbers has words that are no numbers, an empty one among them.
var noNumbers = []string{"", "-1", "+1", "-0", "+0", "00", "01", "007", "1000", "0255", "1e1", "0x1", "1_0", "1.0", "x", "٣", "１", "1\n", "\t1", "1\x00", "\xff", "-"}

// someWord returns a word for a place where a number is expected, mostly a number up to a greatest one.
func someWord(n int, top int) string {
	switch n % 23 {
	case 0:
		return noNumbers[n/23%len(noNumbers)]
	case 1:
		return strconv.Itoa([]int{16, 17, 256, 999}[n/23%4])
	}
	return strconv.Itoa(n % (top + 1))
}

// someLine returns a line, mostly a command with numbers that fit.
func someLine(seed int) string {
	n := numbers(seed, 8, 1<<20)
	tops := map[string][]int{
		"new": {16, 16, 255}, "line": {15, 15, 15, 15, 255}, "disc": {15, 15, 5, 255}, "flood": {7, 7, 255}, "scale": {16, 16},
		"turn": {}, "mirror": {}, "show": {}, "size": {},
	}
	names := []string{"new", "line", "line", "disc", "disc", "flood", "flood", "scale", "turn", "mirror", "show", "show", "size"}
	words := []string{names[n[0]%len(names)]}
	for i, top := range tops[words[0]] {
		words = append(words, someWord(n[1+i], top))
	}
	switch n[6] % 40 {
	case 0:
		words = append(words, someWord(n[7], 16))
	case 1:
		words = words[:len(words)-1]
	case 2:
		words[0] = strings.ToUpper(words[0])
	case 3:
		words[n[7]%len(words)] = noNumbers[n[7]%len(noNumbers)]
	case 4:
		words = slices.Insert(words, n[7]%len(words), "")
	}
	return strings.Join(words, " ")
}

// someLines returns lines that look like random ones. Most of them begin with an image.
func someLines(seed int, count int) []string {
	var out []string
	for i, n := range numbers(seed, count, 1<<20) {
		if i == 0 && seed%5 > 0 {
			out = append(out, "new "+strconv.Itoa(1+n%16)+" "+strconv.Itoa(1+n/16%16)+" "+strconv.Itoa(n/256%256))
			continue
		}
		out = append(out, someLine(n))
	}
	return out
}

// Promise 136: the output for the first lines is the beginning of the output for all.
func TestP136SessionsRunLineByLine(t *testing.T) {
	for seed := range 400 {
		lines := someLines(seed, seed%26)
		all := prints(t, lines...)
		if got := strings.Count(all, "\n"); got != min(len(lines), 20) {
			t.Fatalf("RunSession of %d lines prints %d lines", len(lines), got)
		}
		for count := range lines {
			first := prints(t, lines[:count]...)
			if !strings.HasPrefix(all, first) {
				t.Fatalf("RunSession(%q) = %q, and %q for the first %d lines", lines, all, first, count)
			}
		}
	}
}

func TestP136ManySessions(t *testing.T) {
	seen := map[string]int{}
	for seed := range 3000 {
		lines := someLines(seed+1000, 20)
		for i, output := range strings.Split(prints(t, lines...), "\n")[:len(lines)] {
			name, _, _ := strings.Cut(lines[i], " ")
			seen[name+" "+output]++
		}
	}
	for _, name := range []string{"new", "line", "disc", "flood", "scale"} {
		for _, output := range []string{"ok", "no", "what"} {
			if seen[name+" "+output] < 20 {
				t.Errorf("%s produces %s only %d times", name, output, seen[name+" "+output])
			}
		}
	}
}

func TestP136KnownSessions(t *testing.T) {
	for _, c := range []struct {
		what  string
		lines []string
		want  string
	}{
		{"no lines", nil, ""},
		{"no lines, not nil", []string{}, ""},
		{"an empty line", []string{""}, "what\n"},
		{"empty lines", []string{"", "new 1 1 0", "", "show", ""}, "what\nok\nwhat\n00/\nwhat\n"},
		{"commands without an image", []string{"line 0 0 1 1 5", "disc 0 0 1 5", "flood 0 0 5", "scale 1 1", "turn", "mirror", "show", "size", "new 1 1 5", "show"}, "what\nwhat\nwhat\nwhat\nwhat\nwhat\nwhat\nwhat\nok\n05/\n"},
		{"commands behind an image that was not accepted", []string{"new 0 1 0", "show", "new 1 17 0", "size", "new 1 1 256", "turn", "new x 1 1", "line 0 0 0 0 1"}, "no\nwhat\nno\nwhat\nno\nwhat\nno\nwhat\n"},
		{"an image that stays if another one is not accepted", []string{"new 2 1 9", "new 17 1 0", "show", "new 1 1 -1", "show"}, "ok\nno\n09 09/\nno\n09 09/\n"},
		{"new images", []string{"new 2 1 9", "show", "new 1 3 10", "show", "new 16 1 255", "show"}, "ok\n09 09/\nok\n0a/0a/0a/\nok\nff ff ff ff ff ff ff ff ff ff ff ff ff ff ff ff/\n"},
		{"lines", []string{"new 4 3 0", "line 0 0 3 1 17", "show", "line 3 2 0 2 255", "show", "line 2 1 2 1 1", "show"}, "ok\nok\n11 11 00 00/00 00 11 11/00 00 00 00/\nok\n11 11 00 00/00 00 11 11/ff ff ff ff/\nok\n11 11 00 00/00 00 01 11/ff ff ff ff/\n"},
		{"lines partly and wholly beside the image", []string{"new 2 2 0", "line 1 1 15 15 7", "show", "line 2 0 15 0 8", "show"}, "ok\nok\n00 00/00 07/\nok\n00 00/00 07/\n"},
		{"lines that fail", []string{"new 2 1 3", "line 0 0 16 0 5", "line 16 0 0 0 5", "line 0 16 0 0 5", "line 0 0 0 16 5", "line 0 0 1 0 256", "line 0 0 1 0 -1", "line 0 0 01 0 5", "show"}, "ok\nno\nno\nno\nno\nno\nno\nno\n03 03/\n"},
		{"lines beside the image with a number that is too large", []string{"new 1 1 3", "line 5 5 9 9 256", "disc 9 9 1 256", "line 5 5 9 9 255", "show"}, "ok\nno\nno\nok\n03/\n"},
		{"discs", []string{"new 3 3 0", "disc 1 1 1 9", "show", "disc 0 0 0 1", "show", "disc 15 15 16 2", "show", "disc 1 1 16 3", "show"}, "ok\nok\n00 09 00/09 09 09/00 09 00/\nok\n01 09 00/09 09 09/00 09 00/\nok\n01 09 00/09 09 09/00 09 00/\nok\n03 03 03/03 03 03/03 03 03/\n"},
		{"discs that fail", []string{"new 1 1 3", "disc 0 0 17 5", "disc 16 0 1 5", "disc 0 16 1 5", "disc 0 0 1 256", "disc 0 0 x 5", "disc 0 0 1 x", "show"}, "ok\nno\nno\nno\nno\nno\nno\n03/\n"},
		{"floods", []string{"new 3 2 0", "line 1 0 1 1 8", "flood 0 1 5", "show", "flood 1 0 5", "show", "flood 0 0 6", "show"}, "ok\nok\nok\n05 08 00/05 08 00/\nok\n05 05 00/05 05 00/\nok\n06 06 00/06 06 00/\n"},
		{"floods of equal pixels only", []string{"new 3 1 5", "line 1 0 1 0 6", "line 2 0 2 0 5", "flood 0 0 9", "show"}, "ok\nok\nok\nok\n09 06 05/\n"},
		{"floods that fail", []string{"new 2 1 3", "flood 2 0 5", "flood 0 1 5", "flood 0 0 256", "flood 0 0 x", "flood x 0 0", "show"}, "ok\nno\nno\nno\nno\nno\n03 03/\n"},
		{"scaling", []string{"new 2 2 0", "line 0 0 1 0 255", "scale 1 1", "show", "scale 3 2", "show", "scale 16 16", "scale 1 1", "show"}, "ok\nok\nok\n80/\nok\n80 80 80/80 80 80/\nok\nok\n80/\n"},
		{"scaling by areas", []string{"new 3 1 0", "line 0 0 0 0 30", "line 2 0 2 0 90", "scale 2 1", "show"}, "ok\nok\nok\nok\n14 3c/\n"},
		{"scaling that fails", []string{"new 2 1 3", "scale 0 1", "scale 1 0", "scale 17 1", "scale 1 17", "scale x 1", "scale 1 x", "show"}, "ok\nno\nno\nno\nno\nno\nno\n03 03/\n"},
		{"turns and mirrors", []string{"new 3 2 0", "line 0 0 1 0 1", "line 0 1 0 1 2", "show", "turn", "show", "mirror", "show", "turn", "show"}, "ok\nok\nok\n01 01 00/02 00 00/\nok\n02 01/00 01/00 00/\nok\n01 02/01 00/00 00/\nok\n00 01 01/00 00 02/\n"},
		{"sizes", []string{"new 1 1 9", "size", "new 5 1 0", "size", "new 16 16 7", "size"}, "ok\n11\nok\n11\nok\n47\n"},
		{"sizes of what is there", []string{"new 4 1 0", "size", "line 0 0 0 0 9", "size", "size", "turn", "size"}, "ok\n11\nok\n17\n17\nok\n15\n"},
	} {
		if got := prints(t, c.lines...); got != c.want {
			t.Errorf("RunSession with %s = %q, not %q", c.what, got, c.want)
		}
	}
}

func TestP136MoreLinesThanAreExecuted(t *testing.T) {
	lines := []string{"new 1 1 0"}
	for n := 1; n < 30; n++ {
		lines = append(lines, "new 1 1 "+strconv.Itoa(n))
	}
	for count := range lines {
		if got, want := impl.RunSession(lines[:count]), strings.Repeat("ok\n", min(count, 20)); got != want {
			t.Errorf("RunSession of %d lines = %q", count, got)
		}
	}
	shows := append(slices.Repeat([]string{""}, 17), "new 1 1 1", "line 0 0 0 0 2", "show", "show", "line 0 0 0 0 3", "show")
	if got, want := impl.RunSession(shows), strings.Repeat("what\n", 17)+"ok\nok\n02/\n"; got != want {
		t.Errorf("RunSession of %d lines = %q, not %q", len(shows), got, want)
	}
	says(t, "what", append(slices.Repeat([]string{""}, 19), "show", "new 1 1 1")...)
	if got := impl.RunSession(make([]string, 100000)); got != strings.Repeat("what\n", 20) {
		t.Errorf("RunSession of 100000 empty lines = %q", got)
	}
}

// commands returns a line for each command that is done if there is an image of two by two pixels.
func commands() []string {
	return []string{"new 2 2 5", "line 0 0 1 1 9", "disc 1 1 1 9", "flood 0 0 9", "scale 3 1", "turn", "mirror", "show", "size"}
}

func TestP136Words(t *testing.T) {
	image := []string{"new 2 2 0", "line 1 0 1 0 200"}
	other := func(line string) {
		t.Helper()
		says(t, "what", line)
		says(t, "what", append(slices.Clone(image), line)...)
	}
	for _, line := range commands() {
		name, _, _ := strings.Cut(line, " ")
		for _, bad := range []string{
			" " + line, line + " ", "  " + line, line + " 0", line + " x", line + "  ", strings.Replace(line, " ", "  ", 1) + " ", line + "\x00 ", "0 " + line,
			strings.ToUpper(line), strings.ToUpper(line[:1]) + line[1:], name + "s" + line[len(name):], name[:len(name)-1] + line[len(name):], "x" + line, "\t" + line, "\n" + line, "\ufeff" + line, name + "\x00" + line[len(name):], name + "\n" + line[len(name):],
		} {
			other(bad)
		}
		words := strings.Split(line, " ")
		for i := 1; i < len(words); i++ {
			other(strings.Join(words[:i], " "))
			other(strings.Join(slices.Delete(slices.Clone(words), i, i+1), " "))
			other(strings.Join(slices.Insert(slices.Clone(words), i, ""), " "))
			other(strings.Join(slices.Insert(slices.Clone(words), i, "0"), " "))
			for _, space := range []string{"\t", "\n", "\u00a0", ",", "_"} {
				other(strings.Join(words[:i], " ") + space + strings.Join(words[i:], " "))
			}
		}
	}
	for _, line := range []string{" ", "  ", "   ", "0", "1 2 3", "\x00", "\xff", "\xff\xfe\xfd", "new\xff", "\xc0\x80 1 1", "é", "nеw 1 1 1", "ok", "no", "what", "New", "help", "quit", "-", "newline", "new", "line", "new new new"} {
		other(line)
	}
	other(strings.Repeat("new 1 1 1 ", 100000))
	other(strings.Repeat("x", 1000000))
}

// Any other word counts as -1 where a number is expected, also an empty one.
func TestP136Numbers(t *testing.T) {
	image := []string{"new 2 2 0", "line 1 0 1 0 200"}
	for _, line := range commands() {
		words := strings.Split(line, " ")
		for i := 1; i < len(words); i++ {
			for _, word := range append(noNumbers, "999") {
				bad := slices.Clone(words)
				bad[i] = word
				lines := append(slices.Clone(image), strings.Join(bad, " "))
				says(t, "no", lines...)
				says(t, "00 c8/00 00/", append(lines, "show")...)
			}
		}
	}
	for n := range 1002 {
		word := strconv.Itoa(n)
		says(t, map[bool]string{true: "ok", false: "no"}[n < 256], "new 1 1 "+word)
		says(t, map[bool]string{true: "ok", false: "no"}[1 <= n && n <= 16], "new "+word+" 1 0")
		for _, bad := range []string{"0" + word, "00" + word, "-" + word, "+" + word, word + ".", word + "\x00", "000000000000000000000000" + word} {
			says(t, "no", "new 1 1 "+bad)
		}
	}
	for _, n := range []int{1000, 1001, 9999, 1 << 32, 1<<32 + 1, math.MaxInt, math.MinInt} {
		says(t, "no", "new 1 1 "+strconv.Itoa(n))
		says(t, "no", "new "+strconv.Itoa(n)+" 1 1")
	}
	for _, word := range []string{"18446744073709551617", "340282366920938463463374607431768211457", strings.Repeat("1", 100000)} { // 1, if the higher digits were lost
		says(t, "no", "new "+word+" 1 1")
	}
}

// startedWith returns sessions of at most a number of lines that end with an image.
func startedWith(count int) [][]string {
	var out [][]string
	for seed := range 300 {
		lines := someLines(seed*3+7, 1+seed%count)
		if strings.HasSuffix(outputOf(append(slices.Clone(lines), "show")), "/\n") {
			out = append(out, lines)
		}
	}
	return out
}

// Promise 137: with turn four times behind the lines, show prints the same.
func TestP137FourQuartersAreAWholeTurn(t *testing.T) {
	sessions := startedWith(15)
	if len(sessions) < 150 {
		t.Fatalf("only %d sessions", len(sessions))
	}
	for _, lines := range sessions {
		want := prints(t, append(slices.Clone(lines), "show")...)
		got := prints(t, append(slices.Clone(lines), "turn", "turn", "turn", "turn", "show")...)
		before := prints(t, lines...)
		if got != before+strings.Repeat("ok\n", 4)+strings.TrimPrefix(want, before) {
			t.Fatalf("RunSession(%q) with four turns = %q, and %q without", lines, got, want)
		}
	}
	says(t, "01 02 00/", "new 3 1 0", "line 0 0 0 0 1", "line 1 0 1 0 2", "turn", "turn", "turn", "turn", "show")
	says(t, "00 02 01/", "new 3 1 0", "line 0 0 0 0 1", "line 1 0 1 0 2", "turn", "turn", "show")
	says(t, "01/02/00/", "new 3 1 0", "line 0 0 0 0 1", "line 1 0 1 0 2", "turn", "show")
	says(t, "00/02/01/", "new 3 1 0", "line 0 0 0 0 1", "line 1 0 1 0 2", "turn", "turn", "turn", "show")
}

// Promise 138: the output behind a line with a new image that is accepted does not depend on the lines before it.
func TestP138NewImagesBeginAnew(t *testing.T) {
	for seed, before := range startedWith(8) {
		behind := append([]string{"new 7 5 3"}, someLines(seed*5+1, 8)[1:]...)
		behind = append(behind, "show", "size")
		want := prints(t, behind...)
		got := prints(t, append(slices.Clone(before), behind...)...)
		if first := prints(t, before...); got != first+want {
			t.Fatalf("RunSession(%q) behind %q = %q, not %q", behind, before, got, first+want)
		}
	}
	for _, before := range [][]string{nil, {"show"}, {"new 2 2 9", "turn"}, {"new 17 1 1"}, {"new 16 16 0", "disc 3 3 3 3", "scale 4 4"}} {
		says(t, "04 04 04/", append(slices.Clone(before), "new 3 1 4", "show")...)
	}
}

func TestSessionsKeepTheirArguments(t *testing.T) {
	lines := slices.Grow([]string{"new 3 2 0", "line 0 0 2 0 255", "turn", "show"}, 20)
	spare := lines[:cap(lines)]
	for i := len(lines); i < len(spare); i++ {
		spare[i] = "new 1 1 1"
	}
	old := slices.Clone(spare)
	for range 3 { // nothing is kept from call to call
		if got := impl.RunSession(lines); got != "ok\nok\nok\n00 ff/00 ff/00 ff/\n" {
			t.Errorf("RunSession = %q", got)
		}
		if got := impl.RunSession([]string{"show", "new 17 1 1", "show"}); got != "what\nno\nwhat\n" {
			t.Errorf("RunSession without an image = %q", got)
		}
	}
	if !slices.Equal(spare, old) {
		t.Errorf("RunSession changed its lines to %q", spare)
	}
}
