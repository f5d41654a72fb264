package tests

import (
	"fmt"
	"regexp"
	"slices"
	"strings"
	"testing"

	"loop.example/pixelworks/impl"
)

// textOf returns the text of a valid image, pixel by pixel.
func textOf(m impl.Image) string {
	var rows []string
	for y := range m.Height {
		var row []string
		for x := range m.Width {
			digits := ""
			for _, n := range rawPixel(m, x, y) {
				digits += fmt.Sprintf("%02x", n)
			}
			row = append(row, digits)
		}
		rows = append(rows, strings.Join(row, " ")+"/")
	}
	return strings.Join(rows, "")
}

// textForm matches rows of pixels with at most four numbers each.
var textForm = regexp.MustCompile(`^(([0-9a-f]{2}){1,4}( ([0-9a-f]{2}){1,4})*/)+$`)

// isText reports whether a text is that of an image: it has the form, and its rows and its pixels are as long as the first ones.
func isText(s string) bool {
	if !textForm.MatchString(s) {
		return false
	}
	rows := strings.Split(strings.TrimSuffix(s, "/"), "/")
	width, length := 0, 0
	for y, row := range rows {
		pixels := strings.Split(row, " ")
		if y == 0 {
			width, length = len(pixels), len(pixels[0])
		}
		if len(pixels) != width || slices.ContainsFunc(pixels, func(pixel string) bool { return len(pixel) != length }) {
			return false
		}
	}
	return len(rows) <= 16 && width <= 16
}

// textImages returns images of many shapes, and such with the least and the greatest numbers.
func textImages() []impl.Image {
	out := slices.Concat(pictures(), toneImages(), []impl.Image{smooth(16, 16, 4), smooth(2, 3, 3)})
	for planes := 1; planes <= 4; planes++ {
		for _, n := range []int{0, 255, 9, 10, 15, 16, 159, 160, 175, 250} {
			out = append(out, impl.FillImage(16, 16, slices.Repeat([]int{n}, planes)), impl.FillImage(1, 1, slices.Repeat([]int{n}, planes)))
		}
		for side := 1; side <= 16; side++ {
			out = append(out, picture(side, 17-side, planes))
		}
	}
	return out
}

// Promise 1: an image is valid exactly if FormatImage is not empty, and then all of its pixels can be read.
func TestP1ValidImagesHaveTexts(t *testing.T) {
	for _, m := range slices.Concat(textImages(), badPictures()) {
		got := impl.FormatImage(m)
		if (got != "") != impl.ValidImage(m) {
			t.Fatalf("FormatImage of %d by %d by %d = %q", m.Width, m.Height, m.Planes, got)
		}
		if got == "" {
			continue
		}
		eachPlace(m, func(x int, y int) {
			if pixel := impl.PixelAt(m, x, y); len(pixel) != m.Planes || !slices.Equal(pixel, rawPixel(m, x, y)) {
				t.Fatalf("PixelAt %d %d of %d by %d by %d = %v", x, y, m.Width, m.Height, m.Planes, pixel)
			}
		})
	}
	for width := -1; width <= 17; width++ {
		for height := -1; height <= 17; height++ {
			for planes := -1; planes <= 5; planes++ {
				m := flat(width, height, planes, max(width, 0)*max(height, 0)*max(planes, 0))
				if got := impl.FormatImage(m); (got != "") != impl.ValidImage(m) {
					t.Fatalf("FormatImage of %d by %d by %d = %q", width, height, planes, got)
				}
			}
		}
	}
}

func TestP1KnownTexts(t *testing.T) {
	for _, c := range []struct {
		m    impl.Image
		want string
	}{
		{onePlane(1, 0), "00/"},
		{onePlane(1, 255), "ff/"},
		{onePlane(1, 10), "0a/"},
		{onePlane(1, 160), "a0/"},
		{onePlane(2, 0, 255, 16, 171), "00 ff/10 ab/"},
		{onePlane(1, 1, 2, 3), "01/02/03/"},
		{onePlane(3, 1, 2, 3), "01 02 03/"},
		{onePlane(16, 0, 17, 34, 51, 68, 85, 102, 119, 136, 153, 170, 187, 204, 221, 238, 255), "00 11 22 33 44 55 66 77 88 99 aa bb cc dd ee ff/"},
		{impl.Image{Width: 2, Height: 1, Planes: 2, Data: []int{1, 2, 3, 4}}, "0102 0304/"},
		{impl.Image{Width: 1, Height: 2, Planes: 2, Data: []int{1, 2, 3, 4}}, "0102/0304/"},
		{impl.Image{Width: 1, Height: 1, Planes: 4, Data: []int{1, 35, 69, 103}}, "01234567/"},
		{impl.Image{Width: 2, Height: 2, Planes: 3, Data: []int{137, 171, 205, 239, 254, 220, 186, 152, 118, 84, 50, 16}}, "89abcd effedc/ba9876 543210/"},
	} {
		if got := impl.FormatImage(c.m); got != c.want {
			t.Errorf("FormatImage of %v = %q, not %q", c.m, got, c.want)
		}
		parses(t, c.want, c.m)
	}
	for n := range 256 {
		if got := impl.FormatImage(onePlane(1, n)); got != fmt.Sprintf("%02x/", n) {
			t.Errorf("FormatImage of %d = %q", n, got)
		}
	}
}

// parses checks that ParseImage returns an image.
func parses(t *testing.T, s string, want impl.Image) {
	t.Helper()
	if m, ok := impl.ParseImage(s); !ok || !equal(m, want) {
		t.Fatalf("ParseImage(%q) = %v, %v, not %v", s, m, ok, want)
	}
}

// notParsed checks that ParseImage fails.
func notParsed(t *testing.T, s string) {
	t.Helper()
	if m, ok := impl.ParseImage(s); ok || !isZero(m) {
		t.Fatalf("ParseImage(%q) = %v, %v", s, m, ok)
	}
}

// Promise 116: ParseImage of FormatImage is the image.
func TestP116TextsOfImagesLoseNothing(t *testing.T) {
	for _, m := range textImages() {
		text := impl.FormatImage(m)
		if text != textOf(m) {
			t.Fatalf("FormatImage of %v = %q", m, text)
		}
		parses(t, text, m)
	}
}

func TestP116TheLongestText(t *testing.T) {
	m := picture(16, 16, 4)
	text := impl.FormatImage(m)
	if len(text) != 2304 || impl.MaxTextBytes != 4096 {
		t.Fatalf("the longest text has %d bytes", len(text))
	}
	parses(t, text, m)
	row := text[:144]
	for _, s := range []string{
		text + "/", text + " ", text + "0", text + "00/", text + row, text + text, text + "\n", "/" + text, "0" + text, "00" + text, row + text,
		text[1:], text[2:], text[:2303], text[:2303] + " 00000000/", text[:2303] + "00/",
	} {
		notParsed(t, s)
	}
	for _, count := range []int{2305, 4095, 4096, 4097, 100000} {
		for _, other := range []string{" ", "/", "0", "00/", "00 ", "00000000 ", row} {
			s := strings.Repeat(other, count/len(other)+1)
			notParsed(t, s[:count])
			notParsed(t, (text + s)[:count])
		}
	}
}

// checkText checks ParseImage of a text that may be that of an image. Promise 117: FormatImage of what it accepts is the text.
func checkText(t *testing.T, s string) {
	t.Helper()
	if !isText(s) {
		notParsed(t, s)
		return
	}
	m, ok := impl.ParseImage(s)
	if !ok || !impl.ValidImage(m) || textOf(m) != s || impl.FormatImage(m) != s {
		t.Fatalf("ParseImage(%q) = %v, %v", s, m, ok)
	}
}

// eachString calls a function for all texts of some characters, up to a length.
func eachString(characters string, most int, visit func(s string)) {
	var extend func(s string)
	extend = func(s string) {
		visit(s)
		if len(s) == most {
			return
		}
		for i := range len(characters) {
			extend(s + characters[i:i+1])
		}
	}
	extend("")
}

// Promise 117: FormatImage of what ParseImage accepts is the text.
func TestP117EveryImageHasOneText(t *testing.T) {
	accepted := 0
	eachString("0a /", 8, func(s string) {
		checkText(t, s)
		if isText(s) {
			accepted++
		}
	})
	if accepted < 100 {
		t.Errorf("only %d texts are accepted", accepted)
	}
	eachString("9fA /", 6, func(s string) { checkText(t, s) })
	for _, seed := range numbers(1, 2000, 1<<20) { // longer ones: two rows or more
		s := ""
		for _, n := range numbers(seed, 3+seed%12, 9) {
			s += []string{"00", "7f", "ab", "00 00", " ", "/", "/", "c0 0d/", "00/", "e"}[n]
		}
		checkText(t, s)
	}
}

func TestP117TextsThatAreAlmostRight(t *testing.T) {
	images := []impl.Image{
		onePlane(1, 0), onePlane(2, 0, 255), onePlane(1, 10, 160), onePlane(2, 0, 255, 16, 171), picture(3, 3, 1), picture(1, 1, 2), picture(2, 2, 2),
		picture(1, 2, 3), picture(2, 3, 4), picture(1, 1, 4), picture(3, 1, 4), impl.FillImage(2, 2, []int{0, 0, 0, 0}), picture(16, 1, 1), picture(1, 16, 1),
	}
	for _, m := range images {
		text := textOf(m)
		for i := range len(text) + 1 {
			for c := range 256 {
				checkText(t, text[:i]+string([]byte{byte(c)})+text[i:])
				if i < len(text) {
					checkText(t, text[:i]+string([]byte{byte(c)})+text[i+1:])
				}
			}
			for _, other := range []string{"00", "  ", "//", "/ ", " /", "00 ", " 00", "/00", "00/", "é", "０", "\u00a0", "\r\n", "0x", "%20"} {
				checkText(t, text[:i]+other+text[i:])
			}
			for end := i + 1; end <= len(text); end++ {
				checkText(t, text[:i]+text[end:])
				checkText(t, text[i:end])
				checkText(t, text+text[i:end])
			}
		}
	}
}

func TestP117BadTexts(t *testing.T) {
	for _, s := range []string{
		"", " ", "/", "//", " /", "/ ", "0", "00", "0/", "000/", "00 0/", "0 00/", "00 000/", "00 00", "00 00 /", " 00/", "00 /", "00/ ", "00 / 00/",
		"00  00/", "00/0000/", "0000/00/", "00 0000/", "0000 00/", "00 00/00/", "00/00 00/", "00//", "/00/", "00//00/", "00/00", "00/0/", "00/ 00/",
		"00 FF/", "0A/", "A0/", "FF/", "0G/", "0g/", "g0/", "0x/", "0x00/", "-1/", "+1/", "1_/", "0:/", "`0/", "0@/", "00,00/", "00\t00/", "00\n", "00/\n", "\n00/", "00\r/",
		"00\\", "00|", "00;", "00\x00/", "\x0000/", "00/\x00", "\xff\xff/", "\xff/", "00\xff/", "\xc3\xa9/", "é/", "００/", "00\u00a000/", "00\u200b/",
		"0000000000/", "0000000000 0000000000/", "00112233445566778899aabbccddeeff/",
		"00/11/22/33/44/55/66/77/88/99/aa/bb/cc/dd/ee/ff/00/", "00 11 22 33 44 55 66 77 88 99 aa bb cc dd ee ff 00/",
	} {
		notParsed(t, s)
	}
}

func TestP117TextsBeyondTheLimits(t *testing.T) {
	for width := 1; width <= 18; width++ {
		for height := 1; height <= 18; height++ {
			for planes := 1; planes <= 6; planes++ {
				m := impl.Image{Width: width, Height: height, Planes: planes, Data: numbers(width, width*height*planes, 255)}
				if width <= 16 && height <= 16 && planes <= 4 {
					parses(t, textOf(m), m)
				} else {
					notParsed(t, textOf(m))
				}
			}
		}
	}
}

func TestTextsKeepTheirArguments(t *testing.T) {
	m := picture(5, 3, 2)
	m.Data = roomy(m.Data)
	old := slices.Clone(m.Data[:cap(m.Data)])
	text := impl.FormatImage(m)
	if text != impl.FormatImage(m) || !slices.Equal(m.Data[:cap(m.Data)], old) {
		t.Errorf("FormatImage changed its argument")
	}
	keeps(t, "ParseImage", func() [][]int {
		out, _ := impl.ParseImage(text)
		return [][]int{out.Data}
	})
}
