package tests

import (
	"math"
	"slices"
	"testing"

	"loop.example/pixelworks/impl"
)

// does checks that DoStep returns the right image.
func does(t *testing.T, m impl.Image, s impl.Step) {
	t.Helper()
	want, fine := stepped(m, s)
	if got, ok := impl.DoStep(m, s); !fine || !ok || !equal(got, want) || !impl.ValidImage(got) {
		t.Fatalf("DoStep of %d by %d by %d with %v = %v, %v", m.Width, m.Height, m.Planes, s, got, ok)
	}
}

// notDone checks that DoStep fails.
func notDone(t *testing.T, what string, m impl.Image, s impl.Step) {
	t.Helper()
	if out, ok := impl.DoStep(m, s); ok || !isZero(out) {
		t.Errorf("DoStep with %s: %v = %v, %v", what, s, out, ok)
	}
}

func TestStepConstants(t *testing.T) {
	if impl.StepMirror != 0 || impl.StepTurn != 1 || impl.StepInvert != 2 || impl.StepCrop != 3 || impl.StepFill != 4 || impl.MaxSteps != 12 {
		t.Error("the kinds of steps, or their limit")
	}
}

// Promise 92: DoStep of StepMirror, StepTurn and StepInvert are MirrorImage, TurnImage by a quarter and InvertImage, and all results are valid.
func TestP92StepsDoWhatFunctionsDo(t *testing.T) {
	for _, m := range pictures() {
		for kind, want := range []impl.Image{impl.StepMirror: impl.MirrorImage(m), impl.StepTurn: impl.TurnImage(m, 1), impl.StepInvert: impl.InvertImage(m)} {
			for _, s := range strangeSteps(kind) {
				does(t, m, s)
				if got, ok := impl.DoStep(m, s); !ok || !equal(got, want) {
					t.Fatalf("DoStep of %d by %d with %v is not what the function does", m.Width, m.Height, s)
				}
			}
		}
	}
}

func TestP92StepsThatCrop(t *testing.T) {
	for _, m := range pictures() {
		for i, b := range boxesOf(m) {
			if i > 200 && i%7 > 0 {
				continue
			}
			for _, s := range strangeSteps(impl.StepCrop) {
				s.Box = b
				does(t, m, s)
				got, _ := impl.DoStep(m, s)
				if want, ok := impl.CropImage(m, b); !ok || !equal(got, want) {
					t.Fatalf("DoStep is not CropImage of %d by %d with %v", m.Width, m.Height, b)
				}
			}
		}
	}
}

func TestP92KnownSteps(t *testing.T) {
	m := onePlane(3, 1, 2, 3, 4, 5, 6)
	box := impl.Box{X: 1, Y: 0, Width: 2, Height: 2}
	for _, c := range []struct {
		step  impl.Step
		width int
		want  []int
	}{
		{impl.Step{Kind: 0}, 3, []int{3, 2, 1, 6, 5, 4}},
		{impl.Step{Kind: 1}, 2, []int{4, 1, 5, 2, 6, 3}},
		{impl.Step{Kind: 2}, 3, []int{254, 253, 252, 251, 250, 249}},
		{impl.Step{Kind: 3, Box: box}, 2, []int{2, 3, 5, 6}},
		{impl.Step{Kind: 4, Box: box, Pixel: []int{9}}, 3, []int{1, 9, 9, 4, 9, 9}},
		{impl.Step{Kind: 4, Box: impl.Box{Width: 3, Height: 1}, Pixel: []int{255}}, 3, []int{255, 255, 255, 4, 5, 6}},
		{impl.Step{Kind: 4, Box: impl.Box{X: 2, Y: 1, Width: 1, Height: 1}, Pixel: []int{0}}, 3, []int{1, 2, 3, 4, 5, 0}},
	} {
		if got, ok := impl.DoStep(m, c.step); !ok || !equal(got, onePlane(c.width, c.want...)) {
			t.Errorf("DoStep with %v = %v, %v", c.step, got, ok)
		}
	}
}

func TestP92OtherKindsFail(t *testing.T) {
	for _, m := range pictures() {
		for _, kind := range []int{-1, otherKind, 6, -4, 256, 1 << 32, math.MaxInt, math.MinInt} {
			notDone(t, "another kind", m, impl.Step{Kind: kind, Box: impl.Box{Width: 1, Height: 1}, Pixel: rawPixel(m, 0, 0)})
			notDone(t, "another kind and nothing else", m, impl.Step{Kind: kind})
		}
	}
}

func TestP92BadBoxesFail(t *testing.T) {
	for _, m := range pictures() {
		for _, b := range badBoxes(m) {
			for _, s := range strangeSteps(impl.StepCrop) {
				s.Box = b
				notDone(t, "a bad box", m, s)
			}
			notDone(t, "a bad box", m, impl.Step{Kind: impl.StepCrop, Box: b, Pixel: rawPixel(m, 0, 0)})
		}
	}
}

func TestP92BadImagesFail(t *testing.T) {
	for _, bad := range badPictures() {
		for kind := -1; kind <= otherKind; kind++ {
			pixel := make([]int, min(max(bad.Planes, 0), 5))
			notDone(t, "a bad image", bad, impl.Step{Kind: kind, Box: impl.Box{Width: 1, Height: 1}, Pixel: pixel})
			notDone(t, "a bad image of its own size", bad, impl.Step{Kind: kind, Box: impl.Box{Width: bad.Width, Height: bad.Height}, Pixel: pixel})
			for _, s := range strangeSteps(kind) {
				notDone(t, "a bad image and bad parts", bad, s)
			}
		}
	}
}

// Promise 93: after StepFill, CropImage of the box has only the pixel, and the pixels outside are unchanged.
func TestP93FilledBoxesHaveOneColor(t *testing.T) {
	for _, m := range pictures() {
		for i, b := range boxesOf(m) {
			if i > 200 && i%5 > 0 {
				continue
			}
			for _, pixel := range [][]int{make([]int, m.Planes), slices.Repeat([]int{255}, m.Planes), numbers(i, m.Planes, 255)} {
				s := impl.Step{Kind: impl.StepFill, Box: b, Pixel: pixel}
				does(t, m, s)
				out, _ := impl.DoStep(m, s)
				part, ok := impl.CropImage(out, b)
				if !ok || !equal(part, impl.FillImage(b.Width, b.Height, pixel)) {
					t.Fatalf("the box %v of %d by %d is not filled with %v: %v", b, m.Width, m.Height, pixel, part)
				}
				eachPlace(m, func(x int, y int) {
					if !inBox(b, x, y) && !slices.Equal(rawPixel(out, x, y), rawPixel(m, x, y)) {
						t.Fatalf("the pixel %d %d outside of %v is changed", x, y, b)
					}
				})
			}
		}
	}
}

func TestP93StepFillFails(t *testing.T) {
	for _, m := range pictures() {
		pixel := numbers(3, m.Planes, 255)
		for _, b := range badBoxes(m) {
			notDone(t, "a bad box", m, impl.Step{Kind: impl.StepFill, Box: b, Pixel: pixel})
			notDone(t, "a bad box and no pixel", m, impl.Step{Kind: impl.StepFill, Box: b})
		}
		whole := impl.Box{Width: m.Width, Height: m.Height}
		last := impl.Box{X: m.Width - 1, Y: m.Height - 1, Width: 1, Height: 1}
		for _, bad := range badPixels(m.Planes) {
			notDone(t, "a bad pixel", m, impl.Step{Kind: impl.StepFill, Box: whole, Pixel: bad})
			notDone(t, "a bad pixel", m, impl.Step{Kind: impl.StepFill, Box: last, Pixel: bad})
		}
		for count := range 6 {
			if count != m.Planes {
				notDone(t, "a pixel of another length", m, impl.Step{Kind: impl.StepFill, Box: last, Pixel: numbers(count, count, 255)})
			}
		}
	}
}

// runs checks that RunSteps returns the right image and the right number of steps.
func runs(t *testing.T, m impl.Image, list []impl.Step) {
	t.Helper()
	want, wanted := performed(m, list)
	if got, count := runSteps(t, m, list); count != wanted || !equal(got, want) {
		t.Fatalf("RunSteps of %d by %d with %v = %v, %d, not %v, %d", m.Width, m.Height, list, got, count, want, wanted)
	}
}

// Promise 94: RunSteps is DoStep of each step, one after the other, up to the first one that fails.
func TestP94StepsArePerformedOneByOne(t *testing.T) {
	failed := make([]int, 13)
	for _, m := range pictures() {
		for seed := range 150 {
			list := someSteps(seed, seed%13, m.Planes)
			runs(t, m, list)
			out, count := m, 0
			for count < len(list) {
				next, ok := impl.DoStep(out, list[count])
				if !ok {
					break
				}
				out, count = next, count+1
			}
			got, performed := impl.RunSteps(m, list)
			if performed != count || !equal(got, out) {
				t.Fatalf("RunSteps of %d by %d with %v = %d steps, not %d", m.Width, m.Height, list, performed, count)
			}
			if count < len(list) {
				failed[count]++
			}
		}
	}
	for count, times := range failed[:8] {
		if times == 0 {
			t.Errorf("no list fails at step %d", count)
		}
	}
}

func TestP94StepsThatFail(t *testing.T) {
	for _, m := range pictures() {
		fine := impl.Step{Kind: impl.StepFill, Box: impl.Box{Width: 1, Height: 1}, Pixel: numbers(8, m.Planes, 255)}
		bad := []impl.Step{{Kind: -1}, {Kind: otherKind}, {Kind: impl.StepCrop}, {Kind: impl.StepFill, Box: fine.Box}, {Kind: impl.StepFill, Pixel: fine.Pixel}}
		for _, b := range badBoxes(impl.Image{Width: 16, Height: 16}) {
			bad = append(bad, impl.Step{Kind: impl.StepCrop, Box: b, Pixel: fine.Pixel}, impl.Step{Kind: impl.StepFill, Box: b, Pixel: fine.Pixel})
		}
		others := []impl.Step{{Kind: impl.StepTurn}, fine, {Kind: impl.StepInvert}, {Kind: impl.StepTurn}, {Kind: impl.StepMirror}}
		for _, s := range bad {
			for at := range 12 {
				list := slices.Repeat(others, 3)[:12]
				list[at] = s
				want, _ := performed(m, list[:at])
				if got, count := impl.RunSteps(m, list); count != at || !equal(got, want) {
					t.Fatalf("RunSteps of %d by %d with a bad step %d: %v: %v, %d", m.Width, m.Height, at, s, got, count)
				}
			}
		}
	}
}

func TestP94KnownSteps(t *testing.T) {
	m := onePlane(3, 1, 2, 3, 4, 5, 6)
	corner := impl.Step{Kind: impl.StepFill, Box: impl.Box{Width: 1, Height: 1}, Pixel: []int{9}}
	lower := impl.Step{Kind: impl.StepCrop, Box: impl.Box{Y: 2, Width: 2, Height: 1}}
	wide := impl.Step{Kind: impl.StepCrop, Box: impl.Box{Width: 3, Height: 1}}
	mirror, turn, invert := impl.Step{Kind: impl.StepMirror}, impl.Step{Kind: impl.StepTurn}, impl.Step{Kind: impl.StepInvert}
	for _, c := range []struct {
		list  []impl.Step
		width int
		want  []int
		count int
	}{
		{nil, 3, []int{1, 2, 3, 4, 5, 6}, 0},
		{[]impl.Step{}, 3, []int{1, 2, 3, 4, 5, 6}, 0},
		{[]impl.Step{mirror}, 3, []int{3, 2, 1, 6, 5, 4}, 1},
		{[]impl.Step{mirror, turn}, 2, []int{6, 3, 5, 2, 4, 1}, 2},
		{[]impl.Step{turn, mirror}, 2, []int{1, 4, 2, 5, 3, 6}, 2},
		{[]impl.Step{corner, turn}, 2, []int{4, 9, 5, 2, 6, 3}, 2},
		{[]impl.Step{turn, corner}, 2, []int{9, 1, 5, 2, 6, 3}, 2},
		{[]impl.Step{turn, lower}, 2, []int{6, 3}, 2},
		{[]impl.Step{lower, turn}, 3, []int{1, 2, 3, 4, 5, 6}, 0}, // there is no third row before the turn
		{[]impl.Step{turn, wide, invert}, 2, []int{4, 1, 5, 2, 6, 3}, 1},
		{[]impl.Step{wide, wide, wide, turn, wide, invert}, 1, []int{1, 2, 3}, 4},
		{[]impl.Step{invert, mirror, {Kind: 5}}, 3, []int{252, 253, 254, 249, 250, 251}, 2},
		{slices.Repeat([]impl.Step{turn}, 12), 3, []int{1, 2, 3, 4, 5, 6}, 12},
		{append(slices.Repeat([]impl.Step{turn}, 11), wide), 2, []int{3, 6, 2, 5, 1, 4}, 11},
	} {
		if got, count := impl.RunSteps(m, c.list); count != c.count || !equal(got, onePlane(c.width, c.want...)) {
			t.Errorf("RunSteps with %v = %v, %d", c.list, got, count)
		}
	}
}

// notRun checks that RunSteps fails.
func notRun(t *testing.T, what string, m impl.Image, list []impl.Step) {
	t.Helper()
	if out, count := impl.RunSteps(m, list); count != -1 || !isZero(out) {
		t.Errorf("RunSteps with %s = %v, %d", what, out, count)
	}
}

func TestP94RunStepsFails(t *testing.T) {
	for _, m := range pictures() {
		for kind := -1; kind <= otherKind; kind++ {
			for _, s := range strangeSteps(kind) {
				runs(t, m, slices.Repeat([]impl.Step{s}, 11))
				runs(t, m, slices.Repeat([]impl.Step{s}, 12))
				notRun(t, "13 steps", m, slices.Repeat([]impl.Step{s}, 13))
				notRun(t, "many steps", m, slices.Repeat([]impl.Step{s}, 200))
			}
		}
		notRun(t, "13 steps of which the first one fails", m, append(stepsOf(otherKind), make([]impl.Step, 12)...))
	}
	for _, bad := range badPictures() {
		notRun(t, "a bad image and no steps", bad, nil)
		notRun(t, "a bad image and too many steps", bad, make([]impl.Step, 13))
		for kind := -1; kind <= otherKind; kind++ {
			notRun(t, "a bad image", bad, stepsOf(kind))
		}
	}
}

// Promise 95: RunSteps of the last steps on what RunSteps of the first ones makes is RunSteps of all, if none fails.
func TestP95StepsCanBePerformedInParts(t *testing.T) {
	found := 0
	for _, m := range pictures() {
		for seed := range 100 {
			list := someSteps(seed+500, seed%13, m.Planes)
			all, count := runSteps(t, m, list)
			if count < len(list) {
				continue
			}
			for at := range len(list) + 1 {
				first, before := runSteps(t, m, list[:at])
				last, behind := runSteps(t, first, list[at:])
				if before != at || behind != len(list)-at || !equal(last, all) {
					t.Fatalf("RunSteps of %d by %d in parts of %d and %d steps: %v", m.Width, m.Height, at, len(list)-at, list)
				}
				found++
			}
		}
	}
	if found < 1000 {
		t.Errorf("only %d parts of steps", found)
	}
}

// Promise 96: RunSteps of SimplifySteps makes the same image, if no step fails, and there are not more steps.
func TestP96SimplerStepsDoTheSame(t *testing.T) {
	m := onePlane(3, 1, 2, 3, 4, 5, 6)
	fill := impl.Step{Kind: impl.StepFill, Box: impl.Box{Width: 1, Height: 1}, Pixel: []int{77}}
	eachKindList([]int{impl.StepMirror, impl.StepTurn, impl.StepInvert, impl.StepFill}, 6, func(kinds []int) {
		list := stepsOf(kinds...)
		for i := range list {
			if list[i].Kind == impl.StepFill {
				list[i] = fill
			}
		}
		checkSimpler(t, m, list)
	})
	for _, m := range pictures() {
		for seed := range 60 {
			checkSimpler(t, m, someSteps(seed+900, seed%13, m.Planes))
		}
	}
}

// checkSimpler checks that the simplified steps make the same image, if no step fails.
func checkSimpler(t *testing.T, m impl.Image, list []impl.Step) {
	t.Helper()
	simple := simplifies(t, list)
	if len(simple) > len(list) {
		t.Fatalf("SimplifySteps of %v has more steps", list)
	}
	want, count := runSteps(t, m, list)
	if count < len(list) {
		return
	}
	if got, performed := runSteps(t, m, simple); performed != len(simple) || !equal(got, want) {
		t.Fatalf("SimplifySteps of %v makes %v, not %v", list, got, want)
	}
}

func TestP96StepsWithoutWhatCancels(t *testing.T) {
	eachKindList([]int{impl.StepMirror, impl.StepTurn, impl.StepInvert, impl.StepCrop}, 7, func(kinds []int) {
		simplifies(t, numbered(stepsOf(kinds...)))
	})
	eachKindList([]int{impl.StepMirror, impl.StepTurn}, 12, func(kinds []int) {
		simplifies(t, numbered(stepsOf(kinds...)))
	})
	for seed := range 2000 {
		kinds := numbers(seed, 12, 6)
		for i := range kinds {
			kinds[i]--
		}
		simplifies(t, numbered(stepsOf(kinds...)))
	}
}

func TestP96KnownSteps(t *testing.T) {
	const m, t4, i, c, f, o = impl.StepMirror, impl.StepTurn, impl.StepInvert, impl.StepCrop, impl.StepFill, otherKind
	for _, k := range []struct {
		kinds []int
		left  []int // the places that are left
	}{
		{nil, nil},
		{[]int{m}, []int{0}},
		{[]int{m, m}, nil},
		{[]int{m, m, m}, []int{2}},
		{[]int{m, m, m, m}, nil},
		{[]int{i, i}, nil},
		{[]int{i, i, i}, []int{2}},
		{[]int{t4, t4}, []int{0, 1}},
		{[]int{t4, t4, t4}, []int{0, 1, 2}},
		{[]int{t4, t4, t4, t4}, nil},
		{[]int{t4, t4, t4, t4, t4}, []int{4}},
		{[]int{t4, t4, t4, t4, t4, t4, t4}, []int{4, 5, 6}},
		{[]int{t4, t4, t4, t4, t4, t4, t4, t4}, nil},
		{slices.Repeat([]int{t4}, 12), nil},
		{slices.Repeat([]int{t4}, 11), []int{8, 9, 10}},
		{slices.Repeat([]int{m}, 12), nil},
		{slices.Repeat([]int{i}, 11), []int{10}},
		{[]int{m, i, i, m}, nil},
		{[]int{m, i, m, i}, []int{0, 1, 2, 3}},
		{[]int{m, i, i, m, m}, []int{4}},
		{[]int{m, t4, t4, t4, t4, m}, nil},
		{[]int{t4, m, m, t4, t4, t4}, nil},
		{[]int{t4, t4, m, m, t4, t4, t4}, []int{6}},
		{[]int{t4, t4, m, i, i, m, t4, t4}, nil},
		{[]int{t4, t4, t4, i, t4}, []int{0, 1, 2, 3, 4}},
		{[]int{i, m, i, i, m, i}, nil},
		{[]int{c, c}, []int{0, 1}},
		{[]int{f, f, f, f}, []int{0, 1, 2, 3}},
		{[]int{o, o, o, o}, []int{0, 1, 2, 3}},
		{[]int{-1, -1, -1, -1}, []int{0, 1, 2, 3}},
		{[]int{c, m, m, c}, []int{0, 3}},
		{[]int{m, c, m}, []int{0, 1, 2}},
		{[]int{f, i, i, f, m, f}, []int{0, 3, 4, 5}},
		{[]int{o, m, m, o, -1, t4, t4, t4, t4, -1}, []int{0, 3, 4, 9}},
	} {
		list := numbered(stepsOf(k.kinds...))
		var want []impl.Step
		for _, at := range k.left {
			want = append(want, list[at])
		}
		if got := impl.SimplifySteps(list); !sameSteps(got, want) {
			t.Errorf("SimplifySteps of %v = %v, not the steps %v", k.kinds, got, k.left)
		}
	}
}

func TestP96SimplifyStepsFails(t *testing.T) {
	for kind := -1; kind <= otherKind; kind++ {
		for _, s := range strangeSteps(kind) {
			simplifies(t, slices.Repeat([]impl.Step{s}, 11))
			simplifies(t, slices.Repeat([]impl.Step{s}, 12))
			for _, count := range []int{13, 14, 16, 17, 100} {
				if got := impl.SimplifySteps(slices.Repeat([]impl.Step{s}, count)); len(got) > 0 {
					t.Errorf("SimplifySteps of %d steps = %v", count, got)
				}
			}
		}
	}
	if got := impl.SimplifySteps(append(stepsOf(impl.StepMirror, impl.StepMirror), make([]impl.Step, 11)...)); len(got) > 0 {
		t.Errorf("SimplifySteps of 13 steps = %v", got)
	}
}

// Promise 97: SimplifySteps of SimplifySteps is the same, and two mirrors are nothing.
func TestP97SimpleStepsStay(t *testing.T) {
	eachKindList([]int{-1, impl.StepMirror, impl.StepTurn, impl.StepInvert, impl.StepCrop, impl.StepFill, otherKind}, 5, func(kinds []int) {
		simple := impl.SimplifySteps(numbered(stepsOf(kinds...)))
		if again := impl.SimplifySteps(simple); !sameSteps(again, simple) {
			t.Fatalf("SimplifySteps of %v = %v, and then %v", kinds, simple, again)
		}
	})
	for seed := range 300 {
		simple := impl.SimplifySteps(someSteps(seed, 12, 1+seed%4))
		if again := impl.SimplifySteps(simple); !sameSteps(again, simple) {
			t.Fatalf("SimplifySteps = %v, and then %v", simple, again)
		}
	}
	if got := impl.SimplifySteps(stepsOf(impl.StepMirror, impl.StepMirror)); len(got) > 0 {
		t.Errorf("two mirrors are %v", got)
	}
	// What makes two steps different does not matter to whether they cancel.
	for _, s := range strangeSteps(impl.StepMirror) {
		if got := impl.SimplifySteps([]impl.Step{{Kind: impl.StepMirror}, s}); len(got) > 0 {
			t.Errorf("two different mirrors are %v", got)
		}
	}
}

func TestStepsKeepTheirArguments(t *testing.T) {
	m := picture(5, 3, 2)
	m.Data = roomy(m.Data)
	pixel := roomy([]int{7, 8})
	whole := impl.Box{Width: 5, Height: 3}
	for kind := impl.StepMirror; kind <= impl.StepFill; kind++ {
		s := impl.Step{Kind: kind, Box: whole, Pixel: pixel}
		keeps(t, "DoStep", func() [][]int {
			out, _ := impl.DoStep(m, s)
			return [][]int{out.Data}
		}, m.Data, pixel)
		for _, list := range [][]impl.Step{nil, {}, {s}, {s, s}, {{Kind: otherKind}}, {s, {Kind: otherKind}}} {
			keeps(t, "RunSteps", func() [][]int {
				out, _ := impl.RunSteps(m, list)
				return [][]int{out.Data}
			}, m.Data, pixel)
		}
		mirror := impl.Step{Kind: impl.StepMirror, Pixel: pixel}
		for _, list := range [][]impl.Step{{s}, {{Kind: impl.StepCrop, Pixel: pixel}, s, {Kind: impl.StepCrop, Pixel: pixel}}, {mirror, mirror, s}} {
			checkSimplifiedMemory(t, list, pixel)
		}
	}
}

// checkSimplifiedMemory checks that SimplifySteps changes none of its steps, and shares no memory with them.
func checkSimplifiedMemory(t *testing.T, list []impl.Step, pixel []int) {
	t.Helper()
	simplify := func() [][]int {
		var out [][]int
		for _, s := range impl.SimplifySteps(list) {
			out = append(out, s.Pixel)
		}
		return out
	}
	keeps(t, "SimplifySteps", simplify, pixel)
	apart(t, "SimplifySteps", simplify())
	room := append(slices.Grow(slices.Clone(list), 12), stepsOf(spoiled, spoiled, spoiled)...)
	old := slices.Clone(room)
	got, again := impl.SimplifySteps(room[:len(list)]), impl.SimplifySteps(list)
	for i := range got[:cap(got)] {
		got[:cap(got)][i] = impl.Step{Kind: spoiled - 1}
	}
	if !sameSteps(room, old) || !sameSteps(again, impl.SimplifySteps(list)) {
		t.Errorf("SimplifySteps changed its steps, or shares their memory: %v", room)
	}
}
