package tests

import (
	"math/rand"
	"slices"
	"strings"
	"testing"

	"loop.example/g00883/impl"
)

type hinter = impl.Hinter

// largest is the greatest coordinate, value or number on the stack, either way.
const largest = 1 << 30

func TestHinterConstants(t *testing.T) {
	check(t, "constants", show(impl.MaxStack, impl.MaxSteps, impl.MaxValues, impl.MaxHinted), show(32, 2000, 16, 242))
}

func copyOfHinter(h hinter) hinter {
	h.Orig, h.Now, h.TouchedX, h.TouchedY = slices.Clone(h.Orig), slices.Clone(h.Now), slices.Clone(h.TouchedX), slices.Clone(h.TouchedY)
	h.Ends, h.Values, h.Stack = slices.Clone(h.Ends), slices.Clone(h.Values), slices.Clone(h.Stack)
	return h
}

// sameState tells whether two states are equal, with all that they have.
func sameState(a, b hinter) bool {
	lists := slices.Equal(a.Orig, b.Orig) && slices.Equal(a.Now, b.Now) && slices.Equal(a.TouchedX, b.TouchedX) && slices.Equal(a.TouchedY, b.TouchedY)
	numbers := func(h hinter) [][]int64 {
		return [][]int64{h.Ends, h.Values, h.Stack, {h.Size, h.Ref, h.State, h.Cut, h.Least}}
	}
	return lists && a.AxisY == b.AxisY && slices.EqualFunc(numbers(a), numbers(b), slices.Equal[[]int64])
}

func isLittle(n int64) bool { return n >= -largest && n <= largest }

// numbersOf are all the numbers of a state that must not be too great.
func numbersOf(h hinter) []int64 {
	list := slices.Concat(h.Values, h.Stack)
	for _, p := range slices.Concat(h.Orig, h.Now) {
		list = append(list, p.X, p.Y)
	}
	return list
}

// hinterIsValid tells what the document says of ValidHinter.
func hinterIsValid(h hinter) bool {
	n := len(h.Orig)
	if n < 2 || n > 242 || len(h.Now) != n || len(h.TouchedX) != n || len(h.TouchedY) != n || len(h.Values) > 16 || len(h.Stack) > 32 {
		return false
	}
	if n == 2 && len(h.Ends) > 0 || n > 2 && (len(h.Ends) == 0 || h.Ends[0] <= 0 || h.Ends[len(h.Ends)-1] != int64(n-2)) {
		return false
	}
	for i := 1; i < len(h.Ends); i++ {
		if h.Ends[i] <= h.Ends[i-1] {
			return false
		}
	}
	within := func(v, least, greatest int64) bool { return v >= least && v <= greatest }
	if slices.ContainsFunc(numbersOf(h), func(v int64) bool { return !isLittle(v) }) {
		return false
	}
	return within(h.Size, 1, 128) && within(h.Ref, 0, int64(n-1)) && within(h.State, 0, 5) && within(h.Cut, 0, 32767) && within(h.Least, 0, 32767)
}

// plainHinter is a state with two loops, of four points and of three.
func plainHinter() hinter {
	before := points("0,0 100,0 100,200 0,200 30,50 70,50 50,150 0,0 130,0")
	return hinter{Size: 12, Orig: before, Now: slices.Clone(before), TouchedX: make([]bool, 9), TouchedY: make([]bool, 9), Ends: []int64{4, 7}, Values: []int64{95, -40, 64}, State: 1, Cut: 32, Least: 64}
}

// emptyHinter is the state for an outline without loops.
func emptyHinter() hinter {
	return hinter{Size: 1, Orig: points("0,0 5,0"), Now: points("0,0 5,0"), TouchedX: make([]bool, 2), TouchedY: make([]bool, 2)}
}

// fullHinter is a state in which all limits are reached.
func fullHinter() hinter {
	h := hinter{Size: 128, AxisY: true, Ref: 241, State: 5, Cut: 32767, Least: 32767, Values: slices.Repeat([]int64{largest}, 16), Stack: slices.Repeat([]int64{-largest}, 32)}
	for i := range int64(242) {
		h.Orig, h.Now = append(h.Orig, at(largest, -largest)), append(h.Now, at(-largest, largest))
		h.TouchedX, h.TouchedY = append(h.TouchedX, i%2 == 0), append(h.TouchedY, true)
		if i < 240 {
			h.Ends = append(h.Ends, i+1)
		}
	}
	return h
}

func goodHinters() []hinter {
	one := emptyHinter()
	one.Orig, one.Now, one.TouchedX, one.TouchedY, one.Ends = points("1,2 0,0 5,0"), points("-1,2 0,0 5,0"), []bool{true, false, true}, []bool{false, true, false}, []int64{1}
	single := fullHinter()
	single.Ends = []int64{240}
	return []hinter{plainHinter(), emptyHinter(), fullHinter(), one, single}
}

// hinterEdits are changes of a state, each of one field, by what they change.
func hinterEdits() map[string]func(*hinter) {
	edits := map[string]func(*hinter){
		"one point less":       func(h *hinter) { h.Orig = h.Orig[1:] },
		"one point more":       func(h *hinter) { h.Orig = append(h.Orig, pt{}) },
		"no points":            func(h *hinter) { h.Orig = nil },
		"one place less":       func(h *hinter) { h.Now = h.Now[1:] },
		"one place more":       func(h *hinter) { h.Now = append(h.Now, pt{}) },
		"one flag of x less":   func(h *hinter) { h.TouchedX = h.TouchedX[1:] },
		"one flag of x more":   func(h *hinter) { h.TouchedX = append(h.TouchedX, false) },
		"one flag of y less":   func(h *hinter) { h.TouchedY = h.TouchedY[1:] },
		"one flag of y more":   func(h *hinter) { h.TouchedY = append(h.TouchedY, false) },
		"no ends":              func(h *hinter) { h.Ends = nil },
		"one end more":         func(h *hinter) { h.Ends = append(h.Ends, int64(len(h.Orig)-1)) },
		"the last end twice":   func(h *hinter) { h.Ends = append(h.Ends, int64(len(h.Orig)-2)) },
		"an end of 0":          func(h *hinter) { h.Ends = slices.Insert(h.Ends, 0, 0) },
		"a negative end":       func(h *hinter) { h.Ends = slices.Insert(h.Ends, 0, -1) },
		"a great end first":    func(h *hinter) { h.Ends = slices.Insert(h.Ends, 0, 1<<62) },
		"too many values":      func(h *hinter) { h.Values = make([]int64, 17) },
		"as many values":       func(h *hinter) { h.Values = make([]int64, 16) },
		"too many numbers":     func(h *hinter) { h.Stack = make([]int64, 33) },
		"as many numbers":      func(h *hinter) { h.Stack = make([]int64, 32) },
		"the other axis":       func(h *hinter) { h.AxisY = !h.AxisY },
		"another flag of x":    func(h *hinter) { h.TouchedX[1] = !h.TouchedX[1] },
		"another flag of y":    func(h *hinter) { h.TouchedY[1] = !h.TouchedY[1] },
		"a flag of x and of y": func(h *hinter) { h.TouchedX[0], h.TouchedY[0] = !h.TouchedX[0], !h.TouchedY[0] },
	}
	for _, v := range []int64{-1 << 63, -largest - 1, -largest, -32769, -1, 0, 1, 2, 5, 6, 7, 8, 9, 128, 129, 241, 242, 32767, 32768, largest, largest + 1, 1<<63 - 1} {
		edits[show("Size", v)] = func(h *hinter) { h.Size = v }
		edits[show("Ref", v)] = func(h *hinter) { h.Ref = v }
		edits[show("State", v)] = func(h *hinter) { h.State = v }
		edits[show("Cut", v)] = func(h *hinter) { h.Cut = v }
		edits[show("Least", v)] = func(h *hinter) { h.Least = v }
		edits[show("a value", v)] = func(h *hinter) { h.Values = []int64{3, v, 4} }
		edits[show("a number", v)] = func(h *hinter) { h.Stack = []int64{3, v} }
		edits[show("the first x before", v)] = func(h *hinter) { h.Orig[0].X = v }
		edits[show("the last y before", v)] = func(h *hinter) { h.Orig[len(h.Orig)-1].Y = v }
		edits[show("the last x", v)] = func(h *hinter) { h.Now[len(h.Now)-1].X = v }
		edits[show("the first y", v)] = func(h *hinter) { h.Now[0].Y = v }
	}
	return edits
}

func TestValidHinter(t *testing.T) {
	counts := map[bool]int{}
	for _, good := range goodHinters() {
		check(t, show("ValidHinter", good), impl.ValidHinter(good), true)
		for what, edit := range hinterEdits() {
			h := copyOfHinter(good)
			edit(&h)
			check(t, what, impl.ValidHinter(h), hinterIsValid(h))
			counts[impl.ValidHinter(h)]++
		}
	}
	check(t, show("both kinds", counts), counts[true] > 300 && counts[false] > 300, true)
	check(t, "the zero state", impl.ValidHinter(hinter{}), false)
	more := fullHinter()
	more.Orig, more.Now, more.TouchedX, more.TouchedY, more.Ends = append(more.Orig, pt{}), append(more.Now, pt{}), append(more.TouchedX, false), append(more.TouchedY, false), append(more.Ends, 241)
	check(t, "243 points", impl.ValidHinter(more), false)
	few := hinter{Size: 1, Orig: points("0,0"), Now: points("0,0"), TouchedX: []bool{false}, TouchedY: []bool{false}}
	check(t, "one point", impl.ValidHinter(few), false)
}

// badHinters are states that are not valid.
func badHinters() []hinter {
	list := []hinter{{}}
	for _, good := range goodHinters() {
		for _, edit := range hinterEdits() {
			h := copyOfHinter(good)
			edit(&h)
			if !hinterIsValid(h) {
				list = append(list, h)
			}
		}
	}
	return list
}

func TestSameHinter(t *testing.T) {
	for _, good := range goodHinters() {
		check(t, "a copy", impl.SameHinter(good, copyOfHinter(good)), true)
		for what, edit := range hinterEdits() {
			h := copyOfHinter(good)
			edit(&h)
			check(t, what, impl.SameHinter(good, h), sameState(good, h))
			check(t, what+", exchanged", impl.SameHinter(h, good), sameState(good, h))
			check(t, what+", both", impl.SameHinter(h, copyOfHinter(h)), true)
		}
	}
	check(t, "zero states", impl.SameHinter(hinter{}, hinter{}), true)
	empty := hinter{Orig: []pt{}, Now: []pt{}, TouchedX: []bool{}, TouchedY: []bool{}, Ends: []int64{}, Values: []int64{}, Stack: []int64{}}
	check(t, "lists that are empty or nil", impl.SameHinter(empty, hinter{}), true)
	check(t, "a valid one and the zero one", impl.SameHinter(emptyHinter(), hinter{}), false)
}

// wantedStart tells what the document says of StartHinter.
func wantedStart(o outline, advance int64, values []int64, size, unit int64) (hinter, int64) {
	count := 0
	for _, l := range o.Loops {
		count += len(l.Knots)
	}
	switch {
	case !outlineIsValid(o) || len(values) > 16 || slices.ContainsFunc(values, func(v int64) bool { return v < -262144 || v > 262144 }):
		return hinter{}, impl.ErrInvalid
	case !canScale(advance, size, unit):
		return hinter{}, impl.ErrRange
	case count > 240:
		return hinter{}, impl.ErrFull
	}
	parts := func(v int64) int64 { return quotient([2]int64{v, size * 64}, [2]int64{unit, 1}) }
	h := hinter{Size: size, State: impl.RsGrid, Cut: 32, Least: 64, TouchedX: make([]bool, count+2), TouchedY: make([]bool, count+2)}
	for _, l := range o.Loops {
		for _, k := range l.Knots {
			h.Orig = append(h.Orig, at(parts(k.At.X), parts(k.At.Y)))
		}
		h.Ends = append(h.Ends, int64(len(h.Orig)))
	}
	h.Orig = append(h.Orig, pt{}, at(parts(advance), 0))
	h.Now = slices.Clone(h.Orig)
	for _, v := range values {
		h.Values = append(h.Values, parts(v))
	}
	return h, impl.OK
}

func checkStart(t *testing.T, o outline, advance int64, values []int64, size, unit int64) int64 {
	t.Helper()
	want, due := wantedStart(o, advance, values, size, unit)
	h, code := impl.StartHinter(o, advance, values, size, unit)
	if !sameState(h, want) || code != due {
		t.Errorf("StartHinter(%+v, %d, %v, %d, %d): got %+v and %s, want %+v and %s", o, advance, values, size, unit, h, impl.CodeName(code), want, impl.CodeName(due))
	}
	check(t, "a first state is valid", impl.ValidHinter(h), due == impl.OK)
	return code
}

func TestStartHinter(t *testing.T) {
	o := outlineOf("100,0 160,0 160,710 ~130,355 100,710", "-7,8")
	h, code := impl.StartHinter(o, 260, []int64{80, -700}, 10, 1000)
	want := hinter{Size: 10, Orig: points("64,0 102,0 102,454 83,227 64,454 -4,5 0,0 166,0"), Now: points("64,0 102,0 102,454 83,227 64,454 -4,5 0,0 166,0"), TouchedX: make([]bool, 8), TouchedY: make([]bool, 8), Ends: []int64{5, 6}, Values: []int64{51, -448}, State: impl.RsGrid, Cut: 32, Least: 64}
	check(t, "StartHinter", show(h, code), show(want, impl.OK))
	bare, code := impl.StartHinter(outline{}, -50, nil, 1, 64)
	check(t, "without loops", sameState(bare, hinter{Size: 1, Orig: points("0,0 -50,0"), Now: points("0,0 -50,0"), TouchedX: make([]bool, 2), TouchedY: make([]bool, 2), State: 1, Cut: 32, Least: 64}) && code == impl.OK, true)
	full := outlineOf(slices.Repeat([]string{repeated("0,0", "~1,1", 60)}, 4)...)
	over := outlineOf(append(slices.Repeat([]string{repeated("0,0", "~1,1", 60)}, 4), "5,5")...)
	bad, many, far := outlineOf("~0,0"), make([]int64, 17), []int64{0, 262145}
	for _, c := range []struct {
		what             string
		o                outline
		advance          int64
		values           []int64
		size, unit, code int64
	}{
		{"240 knots", full, 9, many[:16], 128, 16, impl.OK}, {"241 knots", over, 9, nil, 128, 16, impl.ErrFull}, {"241 knots and a bad size", over, 9, nil, 129, 16, impl.ErrRange}, {"241 knots and too many values", over, 9, many, 1, 16, impl.ErrInvalid},
		{"a bad outline", bad, 9, nil, 1, 16, impl.ErrInvalid}, {"a bad outline and size", bad, 9, nil, 0, 0, impl.ErrInvalid}, {"17 values", o, 9, many, 1, 16, impl.ErrInvalid}, {"17 values and a bad unit", o, 9, many, 1, 15, impl.ErrInvalid},
		{"a far value", o, 9, far, 1, 16, impl.ErrInvalid}, {"a far value, either way", o, 9, []int64{-262145, 0}, 1, 16, impl.ErrInvalid}, {"a far value and advance", o, 262145, far, 1, 16, impl.ErrInvalid}, {"values at the limits", o, 9, []int64{262144, -262144}, 128, 16, impl.OK},
		{"an advance at the limit", o, 262144, nil, 128, 16, impl.OK}, {"a far advance", o, 262145, nil, 128, 16, impl.ErrRange}, {"an advance at the other limit", o, -262144, nil, 128, 16, impl.OK}, {"a far advance, the other way", o, -262145, nil, 128, 16, impl.ErrRange},
		{"no size", o, 9, nil, 0, 16, impl.ErrRange}, {"a size too great", o, 9, nil, 129, 16, impl.ErrRange}, {"a unit too small", o, 9, nil, 1, 15, impl.ErrRange}, {"a unit too great", o, 9, nil, 1, 16385, impl.ErrRange}, {"the greatest unit", o, 9, nil, 1, 16384, impl.OK},
	} {
		check(t, c.what, checkStart(t, c.o, c.advance, c.values, c.size, c.unit), c.code)
	}
}

func TestStartHinterExact(t *testing.T) {
	random := fixedRandom()
	codes := map[int64]int{}
	list := append(manyOutlines(400), badOutlines()...)
	for _, o := range list {
		var values []int64
		for range random.Intn(18) {
			values = append(values, random.Int63n(2*262146)-262146)
		}
		codes[checkStart(t, o, random.Int63n(2000), values, 1+random.Int63n(128), 16+random.Int63n(16369))]++
		codes[checkStart(t, o, pick(random, []int64{0, 262144, -262144, 262145}), values[:min(len(values), 3)], random.Int63n(140), 16+random.Int63n(16380))]++
	}
	check(t, show("all codes", codes), codes[impl.OK] > 300 && codes[impl.ErrInvalid] > 20 && codes[impl.ErrRange] > 100, true)
}

// changesOf tells how a state differs from another one with as many points, by what has become of it.
func changesOf(before, after hinter) string {
	var list []string
	tell := func(differs bool, words ...any) {
		if differs {
			text := show(words...)
			list = append(list, text[1:len(text)-1])
		}
	}
	for i := range before.Orig {
		flags := ""
		if after.TouchedX[i] {
			flags += " x"
		}
		if after.TouchedY[i] {
			flags += " y"
		}
		moved := after.Now[i] != before.Now[i] || after.TouchedX[i] != before.TouchedX[i] || after.TouchedY[i] != before.TouchedY[i]
		tell(moved, impl.Decimal(int64(i))+":"+impl.PtText(after.Now[i])+flags)
	}
	tell(after.AxisY != before.AxisY, "axis", after.AxisY)
	tell(after.Ref != before.Ref, "ref", after.Ref)
	tell(after.State != before.State, "state", after.State)
	tell(after.Cut != before.Cut, "cut", after.Cut)
	tell(after.Least != before.Least, "least", after.Least)
	tell(!slices.Equal(after.Values, before.Values), "values", after.Values)
	tell(!slices.Equal(after.Stack, before.Stack), "stack", after.Stack)
	return strings.Join(list, "; ")
}

// stepped executes instructions one by one, up to the first error.
func stepped(h hinter, list []hint) (hinter, int64) {
	code := int64(impl.OK)
	for _, i := range list {
		if h, code = impl.StepHinter(h, i); code != impl.OK {
			break
		}
	}
	return h, code
}

// TestStepNumbers executes instructions that take numbers and put numbers.
func TestStepNumbers(t *testing.T) {
	for _, c := range []struct {
		text  string
		stack []int64
	}{
		{"push 7, push 5, add", []int64{12}}, {"push 7, push 5, sub", []int64{2}}, {"push 5, push 7, sub", []int64{-2}}, {"push 7, push 5, min", []int64{5}}, {"push 5, push 7, min", []int64{5}}, {"push 7, push 5, max", []int64{7}}, {"push -5, push -7, max", []int64{-5}},
		{"push 7, push 5, swap", []int64{5, 7}}, {"push 1, push 7, dup", []int64{1, 7, 7}}, {"push 1, push 7, pop", []int64{1}}, {"push 1, push 7, if", []int64{1}}, {"push 1, push 0, if", []int64{1}},
		{"push 100, push 33, mul", []int64{52}}, {"push 1, push 32, mul", []int64{1}}, {"push -1, push 32, mul", []int64{0}}, {"push 3, push -32, mul", []int64{-1}}, {"push 1, push 31, mul", []int64{0}}, {"push -1, push 33, mul", []int64{-1}}, {"push 64, push -64, mul", []int64{-64}},
		{"push 100, push 33, div", []int64{194}}, {"push 100, push -33, div", []int64{-194}}, {"push -100, push -33, div", []int64{194}}, {"push -100, push 33, div", []int64{-194}}, {"push 1, word 128, div", []int64{1}}, {"push -1, word 128, div", []int64{0}}, {"push 1, word -128, div", []int64{0}}, {"push -1, word -128, div", []int64{1}}, {"push 3, word -128, div", []int64{-1}}, {"push 0, push -5, div", []int64{0}},
		{"push 1, push 2, less", []int64{1}}, {"push 2, push 2, less", []int64{0}}, {"push 3, push 2, less", []int64{0}}, {"push 2, push 2, equal", []int64{1}}, {"push 2, push 3, equal", []int64{0}}, {"push 3, push 2, equal", []int64{0}},
		{"push 5, neg", []int64{-5}}, {"push -5, neg", []int64{5}}, {"push -5, abs", []int64{5}}, {"push 5, abs", []int64{5}}, {"push 0, not", []int64{1}}, {"push 1, not", []int64{0}}, {"push -3, not", []int64{0}},
		{"word 100, round", []int64{128}}, {"push -100, round", []int64{-128}}, {"push 33, state 0, round", []int64{33}}, {"push 33, state 2, round", []int64{32}}, {"push 17, state 3, round", []int64{32}}, {"push 63, state 4, round", []int64{0}}, {"push 1, state 5, round", []int64{64}}, {"push -1, state 5, round", []int64{0}},
		{"push -128, push 127, word -32768, word 32767", []int64{-128, 127, -32768, 32767}}, {"size, count", []int64{12, 9}}, {"push 0, value, push 1, value, push 2, value", []int64{95, -40, 64}}, {"push 5, push 1, store, push 1, value", []int64{5}},
		{"push 2, get, push 2, orig", []int64{100, 100}}, {"axisy, push 2, get, push 2, orig", []int64{200, 200}}, {"push 2, push 9, put, push 2, get, push 2, orig", []int64{9, 100}}, {"push 2, push 9, put, axisy, push 2, get, axisx, push 2, get", []int64{200, 9}}, {"push 8, get, push 7, get", []int64{130, 0}},
		{"stop, else, end, again, repeat 5, repeat 0", nil}, {"push 4, stop, else, end, again, repeat 5", []int64{4}},
		{"push 1, push 2, push 3, add", []int64{1, 5}}, {"push 1, push 2, push 3, swap", []int64{1, 3, 2}}, {"push 9, push 1, push 2, less", []int64{9, 1}}, {"push 9, push 3, neg", []int64{9, -3}},
	} {
		h, code := stepped(plainHinter(), hints(c.text))
		check(t, c.text, show(h.Stack, code), show(c.stack, impl.OK))
	}
}

// TestStepPoints executes instructions that change points and settings.
func TestStepPoints(t *testing.T) {
	for _, c := range []struct{ text, want string }{
		{"axisy", "axis true"}, {"axisy, axisx", ""}, {"axisx", ""}, {"state 3", "state 3"}, {"cut 7", "cut 7"}, {"least 9", "least 9"}, {"state 0, cut 0, least 0", "state 0; cut 0; least 0"}, {"push 5, ref", "ref 5"}, {"push 8, ref", "ref 8"},
		{"push 5, push 1, store", "values [95 5 64]"}, {"push -1, push 2, push 0, store", "values [2 -40 64]; stack [-1]"},
		{"push 1, grid", "1:128,0 x; ref 1"}, {"axisy, push 2, grid", "2:100,192 y; axis true; ref 2"}, {"state 2, push 1, grid", "1:96,0 x; ref 1; state 2"}, {"state 0, push 1, grid", "1:100,0 x; ref 1; state 0"}, {"push 0, push -100, put, push 0, grid", "0:-128,0 x"},
		{"push 1, touch", "1:100,0 x"}, {"push 1, touch, push 1, free", ""}, {"axisy, push 1, touch", "1:100,0 y; axis true"}, {"push 1, touch, axisy, push 1, free", "1:100,0 x; axis true"}, {"push 1, touch, axisy, push 1, touch, axisx, push 1, free", "1:100,0 y"}, {"push 1, free", ""}, {"push 8, touch", "8:130,0 x"},
		{"push 2, push 7, put", "2:7,200 x"}, {"axisy, push 2, push -7, put", "2:100,-7 y; axis true"}, {"push 2, push -5, shift", "2:95,200 x"}, {"push 2, push -5, shift, push 2, push -5, shift", "2:90,200 x"}, {"axisy, push 8, push 3, shift", "8:130,3 y; axis true"},
		{"push 1, link", "1:128,0 x; ref 1"}, {"push 4, link", "4:64,50 x; ref 4"}, {"push 1, ref, push 0, link", "0:-28,0 x"}, {"push 1, ref, push 4, link", "4:36,50 x; ref 4"}, {"push 0, push 10, put, push 1, link", "0:10,0 x; 1:138,0 x; ref 1"}, {"push 1, push 10, put, push 1, link", "1:128,0 x; ref 1"},
		{"push 0, link", "0:64,0 x"}, {"state 0, least 0, push 4, link", "4:30,50 x; ref 4; state 0; least 0"}, {"axisy, push 2, link", "2:100,192 y; axis true; ref 2"}, {"push 1, link, push 5, link", "1:128,0 x; 5:64,50 x; ref 5"},
		{"push 1, push 0, stem", "1:64,0 x; ref 1"}, {"push 1, push 2, stem", "1:128,0 x; ref 1"}, {"cut 36, push 1, push 2, stem", "1:64,0 x; ref 1; cut 36"}, {"cut 35, push 1, push 2, stem", "1:128,0 x; ref 1; cut 35"}, {"cut 0, push 1, push 0, stem", "1:128,0 x; ref 1; cut 0"},
		{"push 1, ref, push 0, push 0, stem", "0:36,0 x"}, {"push 1, ref, push 0, push 2, stem", "0:-28,0 x"}, {"push 0, push 1, stem", "0:64,0 x"}, {"cut 40, push 0, push 1, stem", "0:-64,0 x; cut 40"}, {"cut 139, push 1, push 1, stem", "1:128,0 x; ref 1; cut 139"}, {"cut 140, push 1, push 1, stem", "1:-64,0 x; ref 1; cut 140"},
		{"push 1, ref, cut 140, push 0, push 1, stem", "0:164,0 x; cut 140"}, {"push 1, ref, cut 139, push 0, push 1, stem", "0:-28,0 x; cut 139"}, {"axisy, word 190, push 0, store, push 3, push 0, stem", "3:0,192 y; axis true; ref 3; values [190 -40 64]"},
		{"push 4, push 0, push 1, even", "4:30,50 x"}, {"push 1, push 127, put, push 4, push 0, push 1, even", "1:127,0 x; 4:38,50 x"}, {"push 1, push 127, put, push 4, push 1, push 0, even", "1:127,0 x; 4:38,50 x"}, {"push 4, push 40, put, push 1, push 0, push 4, even", "1:133,0 x; 4:40,50 x"}, {"push 4, push 40, put, push 1, push 4, push 0, even", "1:133,0 x; 4:40,50 x"},
		{"push 0, push 5, put, push 3, push 9, put, push 4, push 0, push 3, even", "0:5,0 x; 3:9,200 x; 4:35,50 x"}, {"push 0, push 5, put, push 3, push 9, put, push 4, push 3, push 0, even", "0:5,0 x; 3:9,200 x; 4:39,50 x"},
		{"push 0, push 7, put, push 0, push 0, push 1, even", "0:7,0 x"}, {"push 0, push 7, put, push 0, push 0, push 0, even", "0:7,0 x"}, {"push 4, push 99, put, push 4, push 0, push 1, even", "4:30,50 x"}, {"axisy, push 2, push 100, put, push 4, push 0, push 2, even", "2:100,100 y; 4:30,25 y; axis true"}, {"push 1, push -1, put, push 6, push 0, push 1, even", "1:-1,0 x; 6:0,150 x"},
		{"push 2, push 12, push 9, delta", "2:109,200 x"}, {"push 2, push 11, push 9, delta", ""}, {"push 2, push 13, push 9, delta", ""}, {"axisy, push 2, size, push -9, delta", "2:100,191 y; axis true"}, {"push 2, push 12, push 0, delta", "2:100,200 x"},
		{"smooth", ""}, {"push 0, push 8, shift, smooth", "0:8,0 x; 1:108,0; 2:108,200; 3:8,200"}, {"axisy, push 4, push 8, shift, smooth", "4:30,58 y; 5:70,58; 6:50,158; axis true"},
	} {
		before := plainHinter()
		h, code := stepped(before, hints(c.text))
		check(t, c.text, code, impl.OK)
		if code == impl.OK {
			check(t, c.text, changesOf(before, h), c.want)
		}
	}
}

func TestStepErrors(t *testing.T) {
	for _, c := range []struct {
		stack []int64
		text  string
		code  int64
	}{
		// What is not there is missed before an index is looked at.
		{nil, "pop", 6}, {nil, "if", 6}, {nil, "dup", 6}, {[]int64{5}, "swap", 6}, {[]int64{5}, "add", 6}, {[]int64{0}, "div", 6}, {nil, "neg", 6}, {nil, "get", 6}, {[]int64{99}, "put", 6}, {[]int64{-1}, "shift", 6}, {[]int64{99}, "stem", 6}, {[]int64{99, 99}, "even", 6}, {[]int64{99, 99}, "delta", 6}, {nil, "grid", 6}, {nil, "touch", 6}, {nil, "value", 6}, {[]int64{99}, "store", 6},
		{nil, "round", 6}, {nil, "ref", 6}, {nil, "free", 6}, {nil, "link", 6}, {nil, "orig", 6}, {nil, "not", 6}, {nil, "abs", 6}, {[]int64{1}, "less", 6}, {[]int64{1}, "equal", 6}, {[]int64{1}, "min", 6}, {[]int64{1}, "max", 6}, {[]int64{1}, "mul", 6}, {[]int64{1}, "sub", 6},
		// Indices of points and of values.
		{[]int64{9}, "get", 2}, {[]int64{-1}, "get", 2}, {[]int64{8}, "get", 0}, {[]int64{9}, "orig", 2}, {[]int64{9}, "ref", 2}, {[]int64{-1}, "ref", 2}, {[]int64{9, 0}, "put", 2}, {[]int64{-1, 0}, "put", 2}, {[]int64{8, 0}, "put", 0}, {[]int64{9, 0}, "shift", 2}, {[]int64{9}, "grid", 2}, {[]int64{9}, "link", 2}, {[]int64{9, 0}, "stem", 2}, {[]int64{0, 3}, "stem", 2}, {[]int64{0, -1}, "stem", 2}, {[]int64{8, 2}, "stem", 0},
		{[]int64{9, 0, 1}, "even", 2}, {[]int64{0, 9, 1}, "even", 2}, {[]int64{0, 1, 9}, "even", 2}, {[]int64{0, 1, -1}, "even", 2}, {[]int64{0, -1, 1}, "even", 2}, {[]int64{8, 7, 6}, "even", 0}, {[]int64{9, 12, 0}, "delta", 2}, {[]int64{9, 11, 0}, "delta", 2}, {[]int64{-1, 11, 0}, "delta", 2}, {[]int64{9}, "touch", 2}, {[]int64{-1}, "free", 2}, {[]int64{9}, "free", 2}, {[]int64{largest}, "touch", 2}, {[]int64{-largest}, "grid", 2},
		{[]int64{3}, "value", 2}, {[]int64{-1}, "value", 2}, {[]int64{2}, "value", 0}, {[]int64{5, 3}, "store", 2}, {[]int64{5, -1}, "store", 2}, {[]int64{99, 2}, "store", 0},
		// Numbers and coordinates that are too great.
		{[]int64{1, 0}, "div", 6}, {[]int64{0, 0}, "div", 6}, {[]int64{largest, 0}, "div", 6}, {[]int64{largest, 0}, "add", 0}, {[]int64{largest, 1}, "add", 2}, {[]int64{-largest, -1}, "add", 2}, {[]int64{-largest, 1}, "sub", 2}, {[]int64{-largest, 0}, "sub", 0}, {[]int64{-largest}, "neg", 0}, {[]int64{-largest}, "abs", 0},
		{[]int64{largest, 64}, "mul", 0}, {[]int64{largest, 65}, "mul", 2}, {[]int64{-largest, 65}, "mul", 2}, {[]int64{largest, largest}, "mul", 2}, {[]int64{1 << 24, 1}, "div", 0}, {[]int64{1<<24 + 1, 1}, "div", 2}, {[]int64{1<<24 + 1, -1}, "div", 2}, {[]int64{-1 << 24, 1}, "div", 0}, {[]int64{largest, largest}, "div", 0}, {[]int64{largest}, "round", 0}, {[]int64{largest}, "state 2, round", 2}, {[]int64{-largest}, "state 2, round", 0}, {[]int64{largest - 1}, "round", 0}, {[]int64{largest - 1}, "state 5, round", 0},
		{[]int64{1, largest}, "put", 0}, {[]int64{0, largest}, "shift", 0}, {[]int64{1, largest}, "shift", 2}, {[]int64{1, -largest}, "shift", 0}, {[]int64{1, 12, largest}, "delta", 2}, {[]int64{1, 11, largest}, "delta", 0}, {[]int64{1, 1, largest}, "put, state 2, grid", 2}, {[]int64{1, 1, largest}, "put, state 5, grid", 0}, {[]int64{1, 0, largest}, "put, link", 2}, {[]int64{1, 0, largest - 64}, "put, push 0, stem", 0}, {[]int64{1, 0, largest - 63}, "put, push 0, stem", 2},
		{[]int64{1, 0, 4, 4, largest}, "put, even", 2}, {[]int64{0, largest}, "put, smooth", 2}, {[]int64{0, largest}, "put, axisy, smooth", 0}, {[]int64{8, largest}, "put, smooth", 0},
		// The stack has room for 32 numbers.
		{make([]int64, 31), "push 1", 0}, {make([]int64, 32), "push 1", 5}, {make([]int64, 32), "word 1", 5}, {make([]int64, 32), "size", 5}, {make([]int64, 32), "count", 5}, {make([]int64, 31), "count", 0}, {make([]int64, 32), "dup", 5}, {make([]int64, 31), "dup", 0}, {make([]int64, 32), "swap", 0}, {make([]int64, 32), "value", 0}, {make([]int64, 32), "get", 0}, {make([]int64, 32), "add", 0}, {make([]int64, 32), "equal", 0}, {make([]int64, 32), "smooth", 0}, {make([]int64, 32), "even", 0},
	} {
		before := plainHinter()
		before.Stack = c.stack
		h, code := stepped(before, hints(c.text))
		check(t, show(c.stack, c.text), code, c.code)
		if code != impl.OK {
			check(t, show(c.stack, c.text), sameState(h, hinter{}), true)
		}
	}
	none := plainHinter()
	none.Values, none.Stack = nil, []int64{0, 0}
	_, code := impl.StepHinter(none, hint{Code: impl.HtStem})
	check(t, "no values at all", code, impl.ErrRange)
	for _, bad := range []hint{{Code: 45}, {Code: -1}, {Code: impl.HtPop, Operand: 1}, {Code: impl.HtPush, Operand: 128}, {Code: impl.HtState, Operand: 6}, {Code: impl.HtCut, Operand: -1}} {
		_, code := impl.StepHinter(plainHinter(), bad)
		check(t, show("an instruction that is not valid", bad), code, impl.ErrInvalid)
	}
}

// TestBadHinters holds that no function goes on with a state that is not valid, whatever else is wrong.
func TestBadHinters(t *testing.T) {
	bads := badHinters()
	check(t, "many states", len(bads) > 300, true)
	for _, bad := range bads {
		for _, i := range hints("stop, pop, push 1, smooth, delta, axisx") {
			h, code := impl.StepHinter(bad, i)
			check(t, show("StepHinter", i, bad), code == impl.ErrInvalid && sameState(h, hinter{}), true)
		}
		h, code := impl.SmoothHinter(bad)
		check(t, show("SmoothHinter", bad), code == impl.ErrInvalid && sameState(h, hinter{}), true)
		for _, program := range []string{"", "\x01", "\xff"} {
			h, steps, code := impl.RunHinter(bad, program)
			check(t, show("RunHinter", bad), code == impl.ErrInvalid && steps == 0 && sameState(h, hinter{}), true)
		}
		o, advance, code := impl.HintedOutline(bad, outlineOf("0,0"))
		check(t, show("HintedOutline", bad), code == impl.ErrInvalid && advance == 0 && len(o.Loops) == 0, true)
	}
}

// numbersTaken is the table of what instructions take.
func numbersTaken(code int64) int {
	switch code {
	case impl.HtPop, impl.HtIf, impl.HtDup, impl.HtNeg, impl.HtAbs, impl.HtNot, impl.HtRound, impl.HtValue, impl.HtRef, impl.HtGet, impl.HtOrig, impl.HtGrid, impl.HtLink, impl.HtTouch, impl.HtFree:
		return 1
	case impl.HtSwap, impl.HtAdd, impl.HtSub, impl.HtMin, impl.HtMax, impl.HtMul, impl.HtDiv, impl.HtLess, impl.HtEqual, impl.HtStore, impl.HtPut, impl.HtShift, impl.HtStem:
		return 2
	case impl.HtEven, impl.HtDelta:
		return 3
	default:
		return 0
	}
}

// indicesFit tells whether what an instruction takes for indices are some.
func indicesFit(h hinter, code int64, n []int64) bool {
	within := func(i int64, count int) bool { return i >= 0 && i < int64(count) }
	count, values := len(h.Orig), len(h.Values)
	switch code {
	case impl.HtRef, impl.HtGet, impl.HtOrig, impl.HtPut, impl.HtShift, impl.HtGrid, impl.HtLink, impl.HtDelta, impl.HtTouch, impl.HtFree:
		return within(n[0], count)
	case impl.HtStem:
		return within(n[0], count) && within(n[1], values)
	case impl.HtEven:
		return within(n[0], count) && within(n[1], count) && within(n[2], count)
	case impl.HtValue:
		return within(n[0], values)
	case impl.HtStore:
		return within(n[1], values)
	default:
		return true
	}
}

// onAxis is the coordinate of a point on the axis of a state.
func onAxis(h hinter, p pt) int64 {
	if h.AxisY {
		return p.Y
	}
	return p.X
}

// flagsOf are the flags of the axis.
func flagsOf(h hinter) []bool {
	if h.AxisY {
		return h.TouchedY
	}
	return h.TouchedX
}

func oneIf(holds bool) int64 {
	if holds {
		return 1
	}
	return 0
}

// wantedPuts is what an instruction puts on the stack.
func wantedPuts(h hinter, i hint, n []int64) []int64 {
	switch i.Code {
	case impl.HtDup:
		return []int64{n[0], n[0]}
	case impl.HtSwap:
		return []int64{n[1], n[0]}
	case impl.HtAdd:
		return []int64{n[0] + n[1]}
	case impl.HtSub:
		return []int64{n[0] - n[1]}
	case impl.HtMin:
		return []int64{slices.Min(n)}
	case impl.HtMax:
		return []int64{slices.Max(n)}
	case impl.HtMul:
		return []int64{quotient([2]int64{n[0], n[1]}, [2]int64{64, 1})}
	case impl.HtDiv:
		return []int64{quotient([2]int64{n[0], 64}, [2]int64{n[1], 1})}
	case impl.HtLess:
		return []int64{oneIf(n[0] < n[1])}
	case impl.HtEqual:
		return []int64{oneIf(n[0] == n[1])}
	case impl.HtNeg:
		return []int64{-n[0]}
	case impl.HtAbs:
		return []int64{max(n[0], -n[0])}
	case impl.HtNot:
		return []int64{oneIf(n[0] == 0)}
	case impl.HtRound:
		return []int64{wantedRoundTo(n[0], h.State)}
	case impl.HtPush, impl.HtWord:
		return []int64{i.Operand}
	case impl.HtSize:
		return []int64{h.Size}
	case impl.HtCount:
		return []int64{int64(len(h.Now))}
	case impl.HtValue:
		return []int64{h.Values[n[0]]}
	case impl.HtGet:
		return []int64{onAxis(h, h.Now[n[0]])}
	case impl.HtOrig:
		return []int64{onAxis(h, h.Orig[n[0]])}
	default:
		return nil
	}
}

// setOnAxis sets the coordinate of a point.
func setOnAxis(h hinter, p, value int64) {
	if h.AxisY {
		h.Now[p].Y = value
	} else {
		h.Now[p].X = value
	}
}

// wantedPlace is where an instruction places its point, and whether it does.
func wantedPlace(h hinter, code int64, n []int64) (int64, bool) {
	orig := func(p int64) int64 { return onAxis(h, h.Orig[p]) }
	now := func(p int64) int64 { return onAxis(h, h.Now[p]) }
	switch code {
	case impl.HtPut:
		return n[1], true
	case impl.HtShift:
		return now(n[0]) + n[1], true
	case impl.HtGrid:
		return wantedRoundTo(now(n[0]), h.State), true
	case impl.HtLink:
		return now(h.Ref) + wantedKeep(orig(n[0])-orig(h.Ref), h.State, h.Least), true
	case impl.HtStem:
		d := orig(n[0]) - orig(h.Ref)
		v := h.Values[n[1]]
		if d < 0 {
			v = -v
		}
		if d-v <= h.Cut && v-d <= h.Cut {
			d = v
		}
		return now(h.Ref) + wantedKeep(d, h.State, h.Least), true
	case impl.HtEven:
		return wantedBetween(orig(n[0]), orig(n[1]), orig(n[2]), now(n[1]), now(n[2])), true
	case impl.HtDelta:
		return now(n[0]) + n[2], n[1] == h.Size
	default:
		return 0, false
	}
}

// wantedBetween is where HtEven places a point.
func wantedBetween(o, oa, ob, na, nb int64) int64 {
	switch {
	case oa == ob:
		return o + na - oa
	case oa > ob:
		oa, ob, na, nb = ob, oa, nb, na
	}
	return na + quotient([2]int64{o - oa, nb - na}, [2]int64{ob - oa, 1})
}

// wantedSmooth is where HtSmooth places a point between two others.
func wantedSmooth(o, oa, ob, na, nb int64) int64 {
	if oa > ob {
		oa, ob, na, nb = ob, oa, nb, na
	}
	switch {
	case o <= oa:
		return o + na - oa
	case o >= ob && o > oa:
		return o + nb - ob
	default:
		return wantedBetween(o, oa, ob, na, nb)
	}
}

// wantedSmoothed is the state after HtSmooth, which need not be valid.
func wantedSmoothed(h hinter) hinter {
	after := copyOfHinter(h)
	first := int64(0)
	for _, end := range h.Ends {
		count := end - first
		isTouched := func(p int64) bool { return flagsOf(h)[p] }
		next := func(p, step int64) int64 {
			for range count {
				p = first + (p-first+step+count)%count
				if isTouched(p) {
					return p
				}
			}
			return -1
		}
		for p := first; p < end; p++ {
			a, b := next(p, -1), next(p, 1)
			if a >= 0 && !isTouched(p) {
				setOnAxis(after, p, wantedSmooth(onAxis(h, h.Orig[p]), onAxis(h, h.Orig[a]), onAxis(h, h.Orig[b]), onAxis(h, h.Now[a]), onAxis(h, h.Now[b])))
			}
		}
		first = end
	}
	return after
}

// wantedChanged changes a copy of a state, from which the numbers have been taken, as the instruction does.
func wantedChanged(h hinter, i hint, n []int64) hinter {
	switch i.Code {
	case impl.HtAxisX, impl.HtAxisY:
		h.AxisY = i.Code == impl.HtAxisY
	case impl.HtState:
		h.State = i.Operand
	case impl.HtCut:
		h.Cut = i.Operand
	case impl.HtLeast:
		h.Least = i.Operand
	case impl.HtStore:
		h.Values[n[1]] = n[0]
	case impl.HtTouch, impl.HtFree:
		flagsOf(h)[n[0]] = i.Code == impl.HtTouch
	case impl.HtSmooth:
		h = wantedSmoothed(h)
	}
	if place, isPlaced := wantedPlace(h, i.Code, n); isPlaced {
		setOnAxis(h, n[0], place)
		flagsOf(h)[n[0]] = true
	}
	if slices.Contains([]int64{impl.HtRef, impl.HtGrid, impl.HtLink, impl.HtStem}, i.Code) {
		h.Ref = n[0]
	}
	return h
}

// wantedStepped tells what the document says of StepHinter.
func wantedStepped(h hinter, i hint) (hinter, int64) {
	if !hinterIsValid(h) || !hintIsValid(i) {
		return hinter{}, impl.ErrInvalid
	}
	rest := len(h.Stack) - numbersTaken(i.Code)
	if rest < 0 {
		return hinter{}, impl.ErrState
	}
	n := slices.Clone(h.Stack[rest:])
	switch {
	case !indicesFit(h, i.Code, n):
		return hinter{}, impl.ErrRange
	case i.Code == impl.HtDiv && n[1] == 0:
		return hinter{}, impl.ErrState
	}
	after := copyOfHinter(h)
	after.Stack = append(after.Stack[:rest], wantedPuts(h, i, n)...)
	if len(after.Stack) > 32 {
		return hinter{}, impl.ErrFull
	}
	after = wantedChanged(after, i, n)
	if slices.ContainsFunc(numbersOf(after), func(v int64) bool { return !isLittle(v) }) {
		return hinter{}, impl.ErrRange
	}
	return after, impl.OK
}

// randomCoordinate returns a coordinate in some range, or at a limit of it.
func randomCoordinate(random *rand.Rand, limit int64) int64 {
	if random.Intn(8) == 0 {
		return pick(random, []int64{limit, -limit, 0})
	}
	return random.Int63n(2*limit+1) - limit
}

// randomHinter returns a valid state with loops of all lengths and any numbers on the stack, many of which are indices.
func randomHinter(random *rand.Rand) hinter {
	h := hinter{Size: 1 + random.Int63n(128), AxisY: random.Intn(2) == 0, State: random.Int63n(6), Cut: random.Int63n(1 << random.Intn(16)), Least: random.Int63n(1 << random.Intn(16))}
	count := int64(0)
	for range random.Intn(5) {
		count += 1 + random.Int63n(1<<random.Intn(5))
		h.Ends = append(h.Ends, count)
	}
	limit, shift := int64(1)<<random.Intn(31), int64(1)<<random.Intn(10)
	if random.Intn(5) == 0 {
		limit, shift = largest, largest
	}
	share := random.Intn(5)
	for range count + 2 {
		p := at(randomCoordinate(random, limit), randomCoordinate(random, limit))
		h.Orig, h.Now = append(h.Orig, p), append(h.Now, p)
		now := &h.Now[len(h.Now)-1]
		if random.Intn(2) == 0 {
			*now = at(min(max(p.X+randomCoordinate(random, shift), -largest), largest), min(max(p.Y+randomCoordinate(random, shift), -largest), largest))
		}
		if random.Intn(6) == 0 {
			*now = at(randomCoordinate(random, limit), randomCoordinate(random, limit))
		}
		h.TouchedX, h.TouchedY = append(h.TouchedX, random.Intn(4) < share), append(h.TouchedY, random.Intn(4) < share)
	}
	h.Ref = random.Int63n(count + 2)
	for range random.Intn(17) {
		h.Values = append(h.Values, randomCoordinate(random, limit))
	}
	for range random.Intn(33) {
		h.Stack = append(h.Stack, pick(random, []int64{random.Int63n(count + 3), random.Int63n(count + 2), random.Int63n(count + 2), random.Int63n(4) - 1, randomCoordinate(random, limit), randomCoordinate(random, largest), h.Size}))
	}
	return h
}

// randomStep returns a valid instruction.
func randomStep(random *rand.Rand) hint {
	h := hint{Code: random.Int63n(45)}
	limits := limitsOf(h.Code)
	h.Operand = limits[0] + random.Int63n(1+limits[1]-limits[0])
	return h
}

func checkStepped(t *testing.T, h hinter, i hint) int64 {
	t.Helper()
	want, due := wantedStepped(h, i)
	got, code := impl.StepHinter(h, i)
	if !sameState(got, want) || code != due {
		t.Errorf("StepHinter(%+v, %v): got %+v and %s, want %+v and %s", h, i, got, impl.CodeName(code), want, impl.CodeName(due))
	}
	check(t, "a next state is valid", impl.ValidHinter(got), code == impl.OK)
	return code
}

// TestStepExact is promise 21 for single instructions: each does what the table says of it, or has the error that comes first.
func TestStepExact(t *testing.T) {
	t.Parallel()
	random := fixedRandom()
	done := map[[2]int64]int{}
	for range 40000 {
		i := randomStep(random)
		done[[2]int64{i.Code, checkStepped(t, randomHinter(random), i)}]++
	}
	for code := range int64(45) {
		if done[[2]int64{code, impl.OK}] < 100 {
			t.Errorf("%s was done too seldom: %v", wantedWords()[code], done)
		}
		if numbersTaken(code) > 0 && done[[2]int64{code, impl.ErrState}] < 5 {
			t.Errorf("%s missed its numbers too seldom: %v", wantedWords()[code], done)
		}
	}
	for _, text := range []string{"add", "sub", "mul", "div", "shift", "delta", "even", "link", "stem", "smooth", "get", "store", "value", "touch", "put"} {
		if code := hints(text)[0].Code; done[[2]int64{code, impl.ErrRange}] < 5 {
			t.Errorf("%s was out of range too seldom: %v", text, done)
		}
	}
	for _, h := range slices.Concat(goodHinters(), badHinters()[:40]) {
		for code := range int64(46) {
			checkStepped(t, h, hint{Code: code})
			checkStepped(t, h, hint{Code: code, Operand: 5})
		}
	}
}

func TestSmoothHinter(t *testing.T) {
	for _, c := range []struct{ touches, want string }{
		{"", ""},
		// One point carries its whole loop, and no other loop.
		{"push 0, push 8, shift", "0:8,0 x; 1:108,0; 2:108,200; 3:8,200"}, {"push 5, push -8, shift", "4:22,50; 5:62,50 x; 6:42,150"}, {"push 3, touch", "3:0,200 x"},
		// The points behind those of the loops carry nothing.
		{"push 7, push 8, shift, push 8, push 9, shift", "7:8,0 x; 8:139,0 x"},
		// Between two points, beside them, and exactly where they were.
		{"push 4, push 0, put, push 5, push 80, put", "4:0,50 x; 5:80,50 x; 6:40,150"}, {"push 4, push 0, put, push 6, push 30, put", "4:0,50 x; 5:50,50; 6:30,150 x"}, {"push 5, push 90, put, push 6, push 60, put", "4:40,50; 5:90,50 x; 6:60,150 x"},
		{"push 0, push 10, put, push 1, push 50, put", "0:10,0 x; 1:50,0 x; 2:50,200; 3:10,200"}, {"push 1, push 50, put, push 3, push 10, put", "0:10,0; 1:50,0 x; 2:50,200; 3:10,200 x"},
		// Both were at the same place: the one before counts up to there, and the one behind beyond it.
		{"push 1, push 90, put, push 2, push 120, put", "0:20,0; 1:90,0 x; 2:120,200 x; 3:20,200"}, {"push 0, push 7, put, push 3, push 9, put", "0:7,0 x; 1:109,0; 2:109,200; 3:9,200 x"}, {"push 0, push 9, put, push 3, push 7, put", "0:9,0 x; 1:107,0; 2:107,200; 3:7,200 x"},
		// Flags of the other axis do not count.
		{"axisy, push 0, push 8, shift, axisx", "0:0,8 y"}, {"axisy, push 0, push 8, shift, axisx, push 1, push 8, shift", "0:8,8 y; 1:108,0 x; 2:108,200; 3:8,200"}, {"push 1, push 8, shift, axisy", "1:108,0 x; axis true"}, {"push 1, push 8, shift, axisy, push 2, push 8, shift", "0:0,8; 1:108,8 x; 2:100,208 y; 3:0,208; axis true"},
		// Both loops, and all points of one.
		{"push 0, push 8, shift, push 6, push 2, shift", "0:8,0 x; 1:108,0; 2:108,200; 3:8,200; 4:32,50; 5:72,50; 6:52,150 x"}, {"push 4, push 1, shift, push 5, push 2, shift, push 6, push 3, shift", "4:31,50 x; 5:72,50 x; 6:53,150 x"},
		// What has been moved and is not touched follows from where it was.
		{"push 1, push 99, put, push 1, free, push 0, push 8, shift", "0:8,0 x; 1:108,0; 2:108,200; 3:8,200"}, {"push 1, push 99, put, push 1, free", "1:99,0"},
	} {
		before := plainHinter()
		ready, code := stepped(before, hints(c.touches))
		check(t, c.touches, code, impl.OK)
		h, code := impl.SmoothHinter(ready)
		check(t, c.touches, code, impl.OK)
		check(t, c.touches, changesOf(before, h), c.want)
		again, code := stepped(ready, hints("smooth"))
		check(t, "the instruction does the same", sameState(again, h) && code == impl.OK, true)
	}
	far := plainHinter()
	far.Now[1].X, far.TouchedX[1] = largest, true
	_, code := impl.SmoothHinter(far)
	check(t, "up to the limit", code, impl.OK)
	far.Orig[2].X = 101
	h, code := impl.SmoothHinter(far)
	check(t, "beyond the limit", code == impl.ErrRange && sameState(h, hinter{}), true)
	far.AxisY = true
	_, code = impl.SmoothHinter(far)
	check(t, "on the other axis", code, impl.OK)
}

// TestSmoothKeepsBetween is promise 21 for smoothing: points between others stay between them, touched ones stay as they are, and doing it again changes nothing.
func TestSmoothKeepsBetween(t *testing.T) {
	t.Parallel()
	random := fixedRandom()
	inner, codes := 0, map[int64]int{}
	for range 20000 {
		h := randomHinter(random)
		want := wantedSmoothed(h)
		got, code := impl.SmoothHinter(h)
		codes[code]++
		if code != impl.OK {
			check(t, show("SmoothHinter", h), code == impl.ErrRange && !hinterIsValid(want) && sameState(got, hinter{}), true)
			continue
		}
		check(t, show("SmoothHinter", h), sameState(got, want), true)
		again, code := impl.SmoothHinter(got)
		check(t, show("again", h), code == impl.OK && sameState(again, got), true)
		inner += checkBetween(t, h, got)
	}
	check(t, show("many points are between others, and some states are out of range", inner, codes), inner > 5000 && codes[impl.OK] > 10000 && codes[impl.ErrRange] > 100, true)
}

// checkBetween holds that a state was smoothed by keeping what is between, and returns how many points were.
func checkBetween(t *testing.T, before, after hinter) int {
	t.Helper()
	count, first, flags := 0, int64(0), flagsOf(before)
	for _, end := range before.Ends {
		var touched []int64
		for p := first; p < end; p++ {
			if flags[p] {
				touched = append(touched, p)
				check(t, "touched points stay", after.Now[p], before.Now[p])
			}
		}
		for k, a := range touched {
			b := touched[(k+1)%len(touched)]
			for p := first + (a+1-first)%(end-first); p != b; p = first + (p+1-first)%(end-first) {
				o, oa, ob := onAxis(before, before.Orig[p]), onAxis(before, before.Orig[a]), onAxis(before, before.Orig[b])
				n, na, nb := onAxis(after, after.Now[p]), onAxis(after, after.Now[a]), onAxis(after, after.Now[b])
				if o >= min(oa, ob) && o <= max(oa, ob) {
					check(t, show("between", o, oa, ob, n, na, nb), n >= min(na, nb) && n <= max(na, nb), true)
					count++
				}
			}
		}
		first = end
	}
	return count
}

// execution is what the document says of RunHinter, pair by pair.
type execution struct {
	state   hinter
	list    []hint
	steps   int64
	code    int64
	stopped bool
}

// do executes one instruction, unless the execution has ended.
func (e *execution) do(at int64) {
	switch {
	case e.stopped:
		return
	case e.steps == 2000:
		e.code, e.stopped = impl.ErrLoop, true
		return
	}
	e.state, e.code = wantedStepped(e.state, e.list[at])
	e.steps++
	e.stopped = e.code != impl.OK || e.list[at].Code == impl.HtStop
}

// part executes the instructions from first up to end.
func (e *execution) part(first, end int64) {
	for at := first; at < end && !e.stopped; at++ {
		partner, _ := wantedPartner(e.list, at)
		switch i := e.list[at]; i.Code {
		case impl.HtRepeat:
			e.do(at)
			for range i.Operand {
				e.part(at+1, partner)
				e.do(partner)
			}
			at = partner
		case impl.HtIf:
			at = e.choice(at, partner)
		default:
			e.do(at)
		}
	}
}

// choice executes a pair of HtIf and HtEnd, and returns where it ends.
func (e *execution) choice(at, partner int64) int64 {
	holds := len(e.state.Stack) > 0 && e.state.Stack[len(e.state.Stack)-1] != 0
	e.do(at)
	end := partner
	if e.list[partner].Code == impl.HtElse {
		end, _ = wantedPartner(e.list, partner)
	}
	if holds {
		// An HtElse behind this part is executed in place of the HtEnd.
		e.part(at+1, partner)
		e.do(partner)
	} else if end != partner {
		e.part(partner+1, end)
		e.do(end)
	}
	return end
}

// wantedRunHinter tells what the document says of RunHinter.
func wantedRunHinter(h hinter, program string) (hinter, int64, int64) {
	list, ok := wantedHints(program)
	if !hinterIsValid(h) || !ok {
		return hinter{}, 0, impl.ErrInvalid
	}
	e := execution{state: copyOfHinter(h), list: list}
	e.part(0, int64(len(list)))
	if e.code != impl.OK {
		return hinter{}, 0, e.code
	}
	return e.state, e.steps, impl.OK
}

func checkRunHinter(t *testing.T, h hinter, program string) int64 {
	t.Helper()
	want, dueSteps, due := wantedRunHinter(h, program)
	got, steps, code := impl.RunHinter(h, program)
	if !sameState(got, want) || steps != dueSteps || code != due {
		t.Errorf("RunHinter(%+v, %q): got %+v, %d and %s, want %+v, %d and %s", h, program, got, steps, impl.CodeName(code), want, dueSteps, impl.CodeName(due))
	}
	return code
}

func programWith(t *testing.T, list []hint) string {
	t.Helper()
	program, code := wantedProgramOf(list)
	if code != impl.OK {
		t.Fatal("no program", list, code)
	}
	return program
}

func TestRunHinter(t *testing.T) {
	for _, c := range []struct {
		text  string
		stack []int64
		steps int64
	}{
		{"", nil, 0}, {"stop", nil, 1}, {"push 1, stop, push 2", []int64{1}, 2}, {"push 1, push 2", []int64{1, 2}, 2},
		{"push 1, if, push 2, end, push 3", []int64{2, 3}, 5}, {"push 0, if, push 2, end, push 3", []int64{3}, 3}, {"push -1, if, push 2, end", []int64{2}, 4}, {"push 0, if, push 2, end", nil, 2}, {"push 0, if, end", nil, 2}, {"push 1, if, end", nil, 3},
		// HtElse is executed in place of HtEnd, and is passed over by an HtIf that has taken 0.
		{"push 1, if, push 2, else, push 3, end, push 4", []int64{2, 4}, 5}, {"push 0, if, push 2, else, push 3, end, push 4", []int64{3, 4}, 5}, {"push 1, if, else, end", nil, 3}, {"push 0, if, else, end", nil, 3}, {"push 0, if, else, push 3, end", []int64{3}, 4},
		{"push 0, push 1, if, if, push 2, else, push 3, end, else, push 4, end", []int64{3}, 7}, {"push 7, push 0, if, if, push 2, else, push 3, end, else, push 4, end", []int64{7, 4}, 5}, {"push 1, if, push 0, if, push 2, end, push 5, else, push 4, end", []int64{5}, 6},
		{"repeat 3, push 1, again", []int64{1, 1, 1}, 7}, {"repeat 1, push 1, again, push 2", []int64{1, 2}, 4}, {"repeat 0, push 1, again, push 2", []int64{2}, 2}, {"repeat 0, again", nil, 1}, {"repeat 5, again", nil, 6}, {"repeat 127, again", nil, 128},
		{"repeat 2, push 5, repeat 2, push 6, again, again", []int64{5, 6, 6, 5, 6, 6}, 15}, {"repeat 2, repeat 0, push 6, again, push 7, again", []int64{7, 7}, 7}, {"repeat 2, repeat 3, again, again", nil, 11}, {"repeat 0, repeat 3, push 1, again, again", nil, 1},
		{"repeat 3, push 1, stop, again, push 2", []int64{1}, 3}, {"push 1, if, stop, end, push 2", nil, 3}, {"push 1, if, push 9, stop, else, push 2, end, push 3", []int64{9}, 4},
		{"push 3, repeat 3, dup, push 1, equal, if, push 77, end, push 1, sub, again", []int64{1, 76}, 25}, {"push 2, repeat 3, dup, if, push 1, sub, else, push 50, swap, end, again", []int64{50, 0}, 20},
		{"push 1, repeat 4, dup, add, again", []int64{16}, 14}, {"size, push 12, equal, if, push 1, else, push 2, end", []int64{1}, 6}, {"repeat 32, push 1, again", slices.Repeat([]int64{1}, 32), 65},
	} {
		program := programWith(t, hints(c.text))
		h, steps, code := impl.RunHinter(plainHinter(), program)
		check(t, c.text, show(h.Stack, steps, code), show(c.stack, c.steps, impl.OK))
		checkRunHinter(t, plainHinter(), program)
	}
	started := plainHinter()
	started.Stack = []int64{1, 2}
	h, steps, code := impl.RunHinter(started, programWith(t, hints("axisy, push 0, grid, push 2, push 1, stem, push 4, push 2, get, put, smooth")))
	check(t, "numbers that were there remain", show(h.Stack, steps, code), show([]int64{1, 2}, 11, impl.OK))
}

func TestRunHinterErrors(t *testing.T) {
	long := "repeat 127" + strings.Repeat(", axisx", 13) + ", again" + strings.Repeat(", axisx", 221)
	for _, c := range []struct {
		text  string
		steps int64
		code  int64
	}{
		{"pop", 0, 6}, {"push 1, add", 0, 6}, {"push 9, get", 0, 2}, {"push 1, push 0, div", 0, 6}, {"repeat 33, push 1, again", 0, 5}, {"push 1, repeat 31, dup, add, again", 0, 2}, {"if, end", 0, 6}, {"repeat 3, pop, again", 0, 6}, {"push 1, repeat 2, pop, again", 0, 6},
		{"push 0, if, pop, end", 2, 0}, {"stop, pop", 1, 0}, {"push 1, if, stop, end, pop", 3, 0}, {"repeat 0, pop, again", 1, 0}, {"push 1, if, else, pop, pop, end", 3, 0},
		// After 2000 instructions, there must not be a further one.
		{long, 2000, 0}, {long + ", axisx", 0, 8}, {long + ", pop", 0, 8}, {long + ", stop", 0, 8}, {strings.Replace(long, "axisx, again", "again", 1) + ", axisx", 1874, 0}, {long[:len(long)-len("axisx")] + "pop", 0, 6}, {long[:len(long)-len("axisx")] + "stop, pop", 2000, 0},
		{long[:len(long)-len("axisx, axisx")] + "push 0, if, axisx, end", 2000, 0}, {long[:len(long)-len("axisx, axisx")] + "push 1, if, end", 0, 8}, {long[:len(long)-len("axisx")] + "repeat 0, pop, again", 2000, 0}, {long[:len(long)-len("axisx")] + "repeat 1, again", 0, 8}, {long[:len(long)-len("axisx, axisx")] + "repeat 1, again", 2000, 0}, {long[:len(long)-len("axisx, axisx, axisx")] + "push 1, if, else, pop, end", 2000, 0},
		{"repeat 127, repeat 13, again, again", 1906, 0}, {"repeat 127, repeat 14, again, again", 0, 8}, {"repeat 127, repeat 127, repeat 127, repeat 127, repeat 127, repeat 127, again, again, again, again, again, again", 0, 8}, {"repeat 127, repeat 127, again, again, pop", 0, 8}, {"pop, repeat 127, repeat 127, again, again", 0, 6},
	} {
		program := programWith(t, hints(c.text))
		h, steps, code := impl.RunHinter(plainHinter(), program)
		check(t, show("RunHinter", c.text), show(steps, code), show(c.steps, c.code))
		check(t, show("no state with an error", c.text), code == impl.OK || sameState(h, hinter{}), true)
		checkRunHinter(t, plainHinter(), program)
	}
	for _, program := range []string{"\xff", "\x27", "\x23", "\x25", "\x24", "\x2c\x02", strings.Repeat("\x10", 401), "\x01\xff"} {
		h, steps, code := impl.RunHinter(plainHinter(), program)
		check(t, show("no program", program), code == impl.ErrInvalid && steps == 0 && sameState(h, hinter{}), true)
	}
	_, steps, code := impl.RunHinter(plainHinter(), strings.Repeat("\x10", 400))
	check(t, "as many bytes as there may be", show(steps, code), show(400, impl.OK))
}

// randomDeeds returns nested instructions, most of which find what they take: points and values of a state, and other numbers.
func randomDeeds(random *rand.Rand, h hinter, count, deeper int) []hint {
	var list []hint
	push := func(n int64) {
		code := pick(random, []int64{impl.HtPush, impl.HtWord})
		if limits := limitsOf(code); n < limits[0] || n > limits[1] {
			n = limits[0]
		}
		list = append(list, hint{Code: code, Operand: n})
	}
	aPoint := func() { push(random.Int63n(int64(len(h.Orig)))) }
	for range count {
		inner := func() []hint { return randomDeeds(random, h, random.Intn(4), deeper-1) }
		switch kind := random.Intn(20); {
		case kind == 0 && deeper > 0:
			push(random.Int63n(3) - 1)
			list = slices.Concat(list, hints("if"), inner(), hints("end"))
		case kind == 1 && deeper > 0:
			push(random.Int63n(2))
			list = slices.Concat(list, hints("if"), inner(), hints("else"), inner(), hints("end"))
		case kind == 2 && deeper > 0:
			list = slices.Concat(list, []hint{{Code: impl.HtRepeat, Operand: random.Int63n(5) * random.Int63n(5)}}, inner(), hints("again"))
		case kind == 3:
			list = append(list, randomStep(random))
			if code := list[len(list)-1].Code; slices.Contains([]int64{impl.HtIf, impl.HtElse, impl.HtEnd, impl.HtRepeat, impl.HtAgain, impl.HtStop}, code) {
				list = list[:len(list)-1]
			}
		case kind < 7:
			aPoint()
			list = append(list, pick(random, hints("grid, link, touch, free, ref, get, orig")))
		case kind < 10:
			aPoint()
			push(random.Int63n(200) - 100)
			list = append(list, pick(random, hints("put, shift, add, sub, mul, swap, less")))
		case kind < 12 && len(h.Values) > 0:
			aPoint()
			push(random.Int63n(int64(len(h.Values))))
			list = append(list, pick(random, hints("stem, store")))
		case kind < 13:
			aPoint()
			aPoint()
			aPoint()
			list = append(list, hints("even")...)
		case kind < 14:
			aPoint()
			push(h.Size)
			push(random.Int63n(100) - 50)
			list = append(list, hints("delta")...)
		case kind < 15 && random.Intn(5) == 0:
			list = append(list, hints("stop")...)
		case kind < 18:
			list = append(list, pick(random, hints("smooth, axisx, axisy, state 1, state 3, state 5, cut 40, least 32")))
		default:
			list = append(list, pick(random, hints("size, count, push 7, word 300")))
		}
	}
	return list
}

// TestRunExact is promise 21 for programs: they do what their instructions do, one after the other.
func TestRunExact(t *testing.T) {
	t.Parallel()
	random := fixedRandom()
	codes, programs := map[int64]int{}, map[int64]int{}
	for range 2500 {
		h := randomHinter(random)
		h.Stack = h.Stack[:random.Intn(1+len(h.Stack)/4)]
		program, code := wantedProgramOf(randomDeeds(random, h, random.Intn(14), 3))
		programs[code]++
		if code == impl.OK {
			codes[checkRunHinter(t, h, program)]++
		}
	}
	check(t, show("many programs", programs), programs[impl.OK] > 2000, true)
	check(t, show("all codes", codes), codes[impl.OK] > 700 && codes[impl.ErrState] > 20 && codes[impl.ErrRange] > 100 && codes[impl.ErrFull] > 5, true)
}

// TestRunFlow goes through all short programs of choices, repetitions and numbers.
func TestRunFlow(t *testing.T) {
	t.Parallel()
	kinds := hints("push 0, push 1, if, else, end, repeat 2, again, stop")
	ran := map[int64]int{}
	h := emptyHinter()
	var extend func(list []hint, more int)
	extend = func(list []hint, more int) {
		if program, code := wantedProgramOf(list); code == impl.OK {
			ran[checkRunHinter(t, h, program)]++
		}
		for _, i := range kinds {
			if more > 0 {
				extend(append(slices.Clone(list), i), more-1)
			}
		}
	}
	extend(nil, 6)
	check(t, show("many programs", ran), ran[impl.OK] > 1000 && ran[impl.ErrState] > 100, true)
}

// wantedHinted tells what the document says of HintedOutline.
func wantedHinted(h hinter, o outline) (outline, int64, int64) {
	if !hinterIsValid(h) || !outlineIsValid(o) {
		return outline{}, 0, impl.ErrInvalid
	}
	var ends []int64
	var hinted outline
	count := 0
	for _, l := range o.Loops {
		count += len(l.Knots)
		ends = append(ends, int64(count))
	}
	if !slices.Equal(ends, h.Ends) {
		return outline{}, 0, impl.ErrState
	}
	count = 0
	for _, l := range o.Loops {
		var moved loop
		for _, k := range l.Knots {
			moved.Knots = append(moved.Knots, impl.Knot{At: h.Now[count], On: k.On})
			count++
		}
		hinted.Loops = append(hinted.Loops, moved)
	}
	if !outlineIsValid(hinted) {
		return outline{}, 0, impl.ErrRange
	}
	return hinted, h.Now[count+1].X - h.Now[count].X, impl.OK
}

func checkHinted(t *testing.T, h hinter, o outline) int64 {
	t.Helper()
	want, width, due := wantedHinted(h, o)
	got, advance, code := impl.HintedOutline(h, o)
	if show(got) != show(want) || advance != width || code != due {
		t.Errorf("HintedOutline(%+v, %+v): got %+v, %d and %s, want %+v, %d and %s", h, o, got, advance, impl.CodeName(code), want, width, impl.CodeName(due))
	}
	return code
}

func TestHintedOutline(t *testing.T) {
	o := outlineOf("1,1 ~2,2 ~3,3 4,4", "5,5 6,6 ~7,7")
	h := plainHinter()
	h.Now[3], h.Now[7], h.Now[8] = at(-9, 9), at(-20, 3), at(140, 4)
	got, advance, code := impl.HintedOutline(h, o)
	check(t, "HintedOutline", show(impl.OutlineText(got), advance, code), show("0,0 ~100,0 ~100,200 -9,9\n30,50 70,50 ~50,150\n", 160, impl.OK))
	empty, advance, code := impl.HintedOutline(emptyHinter(), outline{})
	check(t, "without loops", show(len(empty.Loops), advance, code), show(0, 5, impl.OK))
	for _, other := range []outline{{}, outlineOf("0,0"), outlineOf("0,0 1,1 2,2 3,3"), outlineOf("0,0 1,1 2,2", "0,0 1,1 2,2 3,3"), outlineOf("0,0 1,1 2,2 3,3", "0,0 1,1 2,2", "5,5"), outlineOf("0,0 1,1 2,2 3,3 4,4 5,5 6,6"), outlineOf("0,0 1,1 2,2 3,3", "0,0 1,1")} {
		check(t, show("other loops", other), checkHinted(t, h, other), impl.ErrState)
	}
	check(t, "loops where there are none", checkHinted(t, emptyHinter(), outlineOf("0,0")), impl.ErrState)
	check(t, "more loops than an outline has", checkHinted(t, fullHinter(), outlineOf(slices.Repeat([]string{"0,0"}, 12)...)), impl.ErrState)
	for _, bad := range badOutlines() {
		check(t, "an outline that is not valid", checkHinted(t, h, bad), impl.ErrInvalid)
	}
	for _, c := range []struct {
		index int
		p     pt
		code  int64
	}{
		{0, at(262144, -262144), impl.OK}, {0, at(262145, 0), impl.ErrRange}, {6, at(0, -262145), impl.ErrRange}, {6, at(-262145, 0), impl.ErrRange}, {3, at(5, 262145), impl.ErrRange},
		// The points behind those of the loops may be anywhere.
		{7, at(-largest, -largest), impl.OK}, {8, at(largest, largest), impl.OK},
	} {
		far := copyOfHinter(h)
		far.Now[c.index] = c.p
		check(t, show("a point at", c.index, c.p), checkHinted(t, far, o), c.code)
	}
	far := copyOfHinter(h)
	far.Now[7].X, far.Now[8].X = -largest, largest
	_, advance, code = impl.HintedOutline(far, o)
	check(t, "the greatest advance", show(advance, code), show(1<<31, impl.OK))
	far.Now[0].X = 262145
	check(t, "other loops of a state that is out of range", checkHinted(t, far, outline{}), impl.ErrState)
	// Only Now counts.
	far = copyOfHinter(h)
	far.Orig[0] = at(largest, largest)
	check(t, "a point that was far away", checkHinted(t, far, o), impl.OK)
}

func TestHintedOutlineExact(t *testing.T) {
	random := fixedRandom()
	codes := map[int64]int{}
	for _, o := range manyOutlines(400) {
		h, code := wantedStart(o, random.Int63n(2000), nil, 1+random.Int63n(128), 16+random.Int63n(16369))
		if code != impl.OK {
			continue
		}
		for i := range h.Now {
			if random.Intn(4) == 0 {
				h.Now[i] = placeIn(random, 1<<random.Intn(20))
			}
		}
		codes[checkHinted(t, h, o)]++
		codes[checkHinted(t, h, pick(random, goodOutlines()))]++
	}
	check(t, show("all codes", codes), codes[impl.OK] > 100 && codes[impl.ErrState] > 100 && codes[impl.ErrRange] > 50, true)
}

// wantedGlyphIn tells what the document says of a glyph and of each of its parts.
func wantedGlyphIn(s glyphSet, values []int64, index, size int64) (outline, int64, int64) {
	g := s.Glyphs[index]
	h, code := wantedStart(g.Outline, g.Advance, values, size, s.Unit)
	if code != impl.OK {
		return outline{}, 0, code
	}
	if _, ok := wantedHints(g.Hints); !ok {
		return outline{}, 0, impl.ErrFormat
	}
	h, _, code = wantedRunHinter(h, g.Hints)
	if code != impl.OK {
		return outline{}, 0, code
	}
	whole, advance, code := wantedHinted(h, g.Outline)
	if code != impl.OK {
		return outline{}, 0, code
	}
	for _, p := range g.Parts {
		o, _, code := wantedGlyphIn(s, values, p.Glyph, size)
		if code != impl.OK {
			return outline{}, 0, code
		}
		by := func(v int64) int64 {
			return wantedRoundTo(quotient([2]int64{v, size * 64}, [2]int64{s.Unit, 1}), impl.RsGrid)
		}
		whole.Loops = append(whole.Loops, loopsIn(glyphSet{Glyphs: []glyph{{Outline: o}}}, 0, by(p.Move.X), by(p.Move.Y))...)
	}
	switch {
	case len(whole.Loops) > 12:
		return outline{}, 0, impl.ErrFull
	case !outlineIsValid(whole):
		return outline{}, 0, impl.ErrRange
	default:
		return whole, advance, impl.OK
	}
}

// checkGlyph holds HintGlyph for a valid set whose glyphs do not have parts in too many ways.
func checkGlyph(t *testing.T, s glyphSet, values []int64, index, size int64) int64 {
	t.Helper()
	want, width, due := wantedGlyphIn(s, values, index, size)
	got, advance, code := impl.HintGlyph(s, values, index, size)
	if show(got) != show(want) || advance != width || code != due {
		t.Errorf("HintGlyph(%+v, %v, %d, %d): got %+v, %d and %s, want %+v, %d and %s", s, values, index, size, got, advance, impl.CodeName(code), want, width, impl.CodeName(due))
	}
	return code
}

// hintedBy returns a glyph with the program of these instructions.
func hintedBy(t *testing.T, g glyph, advance int64, text string) glyph {
	t.Helper()
	g.Advance, g.Hints = advance, programWith(t, hints(text))
	return g
}

func TestHintGlyph(t *testing.T) {
	stem := hintedBy(t, leaf("stem", "100,0 160,0 ~160,710 100,710"), 260, "push 0, grid, push 1, link, smooth")
	two := compound("two", partAt(0, 0, 0), partAt(0, 240, 10))
	two.Advance = 500
	third := hintedBy(t, compound("third", partAt(1, -240, 100), partAt(0, 50, -50)), 500, "push 1, grid")
	valued := hintedBy(t, leaf("valued", "0,0 100,0"), 100, "push 1, push 0, stem, push 3, push 1, value, put")
	s := setOf(stem, two, third, valued, leaf("bare"))
	for _, c := range []struct {
		index, size int64
		text        string
		advance     int64
	}{
		{0, 10, "64,0 128,0 ~128,454 64,454\n", 166}, {1, 10, "64,0 128,0 ~128,454 64,454\n192,0 256,0 ~256,454 192,454\n", 320},
		// Moves of -153,6 and of 64, and 32 and -32 parts are rounded to whole pixels.
		{2, 10, "-64,64 0,64 ~0,518 -64,518\n64,64 128,64 ~128,518 64,518\n128,0 192,0 ~192,454 128,454\n", 320}, {3, 10, "0,0 64,0\n", 512}, {4, 10, "", 0}, {0, 1, "0,0 64,0 ~64,45 0,45\n", 17}, {1, 128, "832,0 1344,0 ~1344,5816 832,5816\n2816,64 3328,64 ~3328,5880 2816,5880\n", 4096},
	} {
		o, advance, code := impl.HintGlyph(s, []int64{1000, 800}, c.index, c.size)
		check(t, show("HintGlyph", c.index, c.size), show(impl.OutlineText(o), advance, code), show(c.text, c.advance, impl.OK))
		checkGlyph(t, s, []int64{1000, 800}, c.index, c.size)
	}
	o, advance, code := impl.HintGlyph(s, []int64{120, 800}, 3, 10)
	check(t, "a value near to the distance", show(impl.OutlineText(o), advance, code), show("0,0 64,0\n", 512, impl.OK))
	_, _, code = impl.HintGlyph(s, nil, 3, 10)
	check(t, "values that are missing", code, impl.ErrRange)
}

func TestHintGlyphErrors(t *testing.T) {
	large := leaf("large", slices.Repeat([]string{repeated("0,0", "1,1", 60)}, 5)...)
	large.Hints = "\xff"
	bad, badder := leaf("bad"), compound("badder", partAt(0, 0, 0))
	bad.Hints, badder.Hints = "\xff", "\x27"
	far := leaf("far", "262144,0")
	seven, six := leaf("seven", slices.Repeat([]string{"1,1"}, 7)...), leaf("six", slices.Repeat([]string{"2,2"}, 6)...)
	s := setOf(large, bad, hintedBy(t, leaf("pops"), 0, "pop"), badder, hintedBy(t, leaf("loops"), 0, "repeat 127, repeat 127, again, again"), far, seven, six,
		compound("a", partAt(2, 0, 0), partAt(4, 0, 0)), compound("b", partAt(4, 0, 0), partAt(2, 0, 0)), hintedBy(t, compound("c", partAt(4, 0, 0)), 0, "push 9, get"), compound("d", partAt(6, 0, 0), partAt(7, 0, 0)), compound("e", partAt(6, 0, 0), partAt(7, 0, 0), partAt(1, 0, 0)),
		compound("f", partAt(7, 262144, 0), partAt(7, 0, -262144)), compound("g", partAt(11, 0, 0), partAt(1, 0, 0)), compound("h", partAt(13, 0, 0), partAt(5, 0, 0)), compound("i", partAt(7, 262144, 0), partAt(7, 0, 0), partAt(7, 0, 0)), compound("j", partAt(5, -262144, 0)), compound("k", partAt(7, 0, 0), partAt(7, 9, 9)),
		hintedBy(t, leaf("far2", "100,0"), 0, "push 0, word 32767, repeat 4, dup, add, again, put"), compound("l", partAt(19, 0, 0)))
	for _, c := range []struct {
		what              string
		index, size, code int64
	}{
		{"too many points, before hints that are no program", 0, 10, impl.ErrFull}, {"hints that are no program", 1, 10, impl.ErrFormat}, {"an error of a step", 2, 10, impl.ErrState}, {"own hints before those of parts", 3, 10, impl.ErrFormat}, {"too many steps", 4, 10, impl.ErrLoop},
		{"the first part", 8, 10, impl.ErrState}, {"the first part, exchanged", 9, 10, impl.ErrLoop}, {"a step before parts", 10, 10, impl.ErrRange}, {"13 loops", 11, 10, impl.ErrFull}, {"a part before the number of loops", 12, 10, impl.ErrFormat},
		{"moved too far", 13, 128, impl.ErrRange}, {"the same at a small size", 13, 1, impl.OK}, {"a part with too many loops before the next part", 14, 10, impl.ErrFull}, {"a part of a part", 15, 128, impl.ErrRange}, {"too many loops and too far", 16, 128, impl.ErrFull}, {"12 loops", 18, 128, impl.OK},
		{"a part that is too far, moved back", 17, 128, impl.ErrRange}, {"the part at a small size", 17, 1, impl.OK}, {"a leaf that is too far", 5, 128, impl.ErrRange}, {"a leaf that is moved too far by its hints", 19, 1, impl.ErrRange}, {"the same as a part", 20, 1, impl.ErrRange},
		{"no glyph", 21, 10, impl.ErrRange}, {"no glyph, negative", -1, 10, impl.ErrRange}, {"no size", 1, 0, impl.ErrRange}, {"a negative size", 1, -1, impl.ErrRange}, {"a size that is too great", 1, 129, impl.ErrRange}, {"the greatest size", 7, 128, impl.OK}, {"the least size", 7, 1, impl.OK}, {"no glyph and no size", 40, 0, impl.ErrRange},
	} {
		o, advance, code := impl.HintGlyph(s, nil, c.index, c.size)
		check(t, c.what, code, c.code)
		check(t, c.what, code == impl.OK || len(o.Loops) == 0 && advance == 0, true)
		if c.index >= 0 && c.index < 21 && c.size > 0 && c.size < 129 {
			checkGlyph(t, s, nil, c.index, c.size)
		}
	}
	for _, values := range [][]int64{make([]int64, 17), {262145}, {0, -262145}} {
		for _, index := range []int64{7, 99, 0} {
			for _, size := range []int64{10, 0} {
				_, _, code := impl.HintGlyph(s, values, index, size)
				check(t, show("values", values, index, size), code, impl.ErrInvalid)
			}
		}
	}
	_, _, code := impl.HintGlyph(s, append(make([]int64, 15), 262144), 7, 10)
	check(t, "as many values", code, impl.OK)
	for _, bad := range badSets() {
		for _, index := range []int64{0, 99} {
			_, _, code := impl.HintGlyph(bad, nil, index, 200*index+10)
			check(t, "a set that is not valid", code, impl.ErrInvalid)
		}
	}
}

// TestHintTowers holds that glyphs are hinted in time though they have parts in very many ways.
func TestHintTowers(t *testing.T) {
	busy := "push 0, repeat 120, push 0, push 1, shift, push 1, grid, push 0, push 1, push 0, even, smooth, again"
	for _, c := range []struct {
		first glyph
		times int
		index int64
		code  int64
	}{
		{leaf("a"), 6, 39, impl.OK}, {leaf("a", "0,0"), 1, 39, impl.OK}, {leaf("a", "0,0"), 6, 1, impl.OK}, {leaf("a", "0,0"), 6, 2, impl.ErrFull}, {leaf("a", "0,0"), 6, 39, impl.ErrFull}, {leaf("a", "0,0"), 2, 3, impl.OK}, {leaf("a", "0,0"), 2, 4, impl.ErrFull},
	} {
		s := setOf(tower(c.first, 39, c.times, 10, 0)...)
		for i := range s.Glyphs {
			s.Glyphs[i] = hintedBy(t, s.Glyphs[i], int64(100+i), busy)
		}
		o, advance, code := impl.HintGlyph(s, nil, c.index, 20)
		check(t, show("HintGlyph", c.times, c.index), code, c.code)
		other, second, code := impl.HintGlyph(reversedSet(s), nil, 39-c.index, 20)
		check(t, "in the other order", show(other, second, code), show(o, advance, c.code))
	}
	lines := slices.Repeat([]string{repeated("0,0", "7,9", 20)}, 12)
	s := setOf(tower(leaf("a", lines...), 39, 1, 5, 5)...)
	for i := range s.Glyphs {
		s.Glyphs[i] = hintedBy(t, s.Glyphs[i], 100, "push 1, touch, repeat 127"+strings.Repeat(", smooth", 13)+", again")
	}
	o, _, code := impl.HintGlyph(s, nil, 39, 20)
	check(t, "much to be smoothed", show(len(o.Loops), code), show(12, impl.OK))
}

// randomHintedSet returns a valid set, most of whose glyphs have hints that can be executed.
func randomHintedSet(t *testing.T, random *rand.Rand, values int) glyphSet {
	s := randomSet(random)
	for i, g := range s.Glyphs {
		h, code := wantedStart(g.Outline, g.Advance, make([]int64, values), 10, 1000)
		if code != impl.OK || random.Intn(12) == 0 {
			continue
		}
		if program, code := wantedProgramOf(randomDeeds(random, h, random.Intn(5), 2)); code == impl.OK {
			s.Glyphs[i].Hints = program
		}
		for k := range g.Parts {
			g.Parts[k].Move = placeIn(random, 3000)
		}
	}
	return s
}

func TestHintGlyphExact(t *testing.T) {
	t.Parallel()
	random := fixedRandom()
	codes, compounds := map[int64]int{}, 0
	for range 500 {
		values := make([]int64, random.Intn(17))
		for i := range values {
			values[i] = random.Int63n(2000) - 300
		}
		s := randomHintedSet(t, random, len(values))
		for i, ways := range waysOf(s) {
			if ways > 200 {
				continue
			}
			code := checkGlyph(t, s, values, int64(i), 1+random.Int63n(128))
			codes[code]++
			if code == impl.OK && len(s.Glyphs[i].Parts) > 0 {
				compounds++
			}
		}
	}
	check(t, show("all codes, and glyphs with parts", codes, compounds), codes[impl.OK] > 400 && compounds > 100 && codes[impl.ErrFormat] > 30 && codes[impl.ErrRange] > 30 && codes[impl.ErrState] > 2, true)
}

// roomyHinter returns an equal state, behind whose lists there is room that is not empty.
func roomyHinter(h hinter) hinter {
	h.Orig, h.Now, h.TouchedX, h.TouchedY = roomySlice(h.Orig, at(77, 7)), roomySlice(h.Now, at(77, 7)), roomySlice(h.TouchedX, true), roomySlice(h.TouchedY, true)
	h.Ends, h.Values, h.Stack = roomySlice(h.Ends, 77), roomySlice(h.Values, 77), roomySlice(h.Stack, 77)
	return h
}

func hinterMemory(h hinter) string {
	return show(h, h.Orig[:cap(h.Orig)], h.Now[:cap(h.Now)], h.TouchedX[:cap(h.TouchedX)], h.TouchedY[:cap(h.TouchedY)], h.Ends[:cap(h.Ends)], h.Values[:cap(h.Values)], h.Stack[:cap(h.Stack)])
}

// overwriteHinter sets all memory of a state, and holds that its lists share none.
func overwriteHinter(t *testing.T, h hinter) {
	t.Helper()
	lists := []func(){
		func() { overwrite(h.Orig, at(55, 5)) }, func() { overwrite(h.Now, at(66, 6)) }, func() { overwrite(h.TouchedX, true) }, func() { overwrite(h.TouchedY, true) },
		func() { overwrite(h.Ends, 55) }, func() { overwrite(h.Values, 66) }, func() { overwrite(h.Stack, 77) },
	}
	// Each list is overwritten in a copy as well, so that the rest of the copy tells what else has been changed.
	want := copyOfHinter(h)
	for i, change := range lists {
		change()
		copied := func(h hinter) string {
			return show([]any{h.Orig, h.Now, h.TouchedX, h.TouchedY, h.Ends, h.Values, h.Stack}[i+1:]...)
		}
		check(t, "later lists of a state", copied(h), copied(want))
	}
}

// hinterArguments are arguments of the functions of chapter 20, valid or not.
type hinterArguments struct {
	h, other            hinter
	o                   outline
	s                   glyphSet
	values              []int64
	i                   hint
	program             string
	advance, size, unit int64
	index, glyphSize    int64
}

type hinterResults struct {
	states   [4]hinter
	outlines [2]outline
	numbers  [3]int64
	flags    [2]bool
	codes    [6]int64
}

func hinterResultsOf(a hinterArguments) hinterResults {
	var r hinterResults
	r.flags = [2]bool{impl.ValidHinter(a.h), impl.SameHinter(a.h, a.other)}
	r.states[0], r.codes[0] = impl.StartHinter(a.o, a.advance, a.values, a.size, a.unit)
	r.states[1], r.codes[1] = impl.StepHinter(a.h, a.i)
	r.states[2], r.codes[2] = impl.SmoothHinter(a.h)
	r.states[3], r.numbers[0], r.codes[3] = impl.RunHinter(a.h, a.program)
	r.outlines[0], r.numbers[1], r.codes[4] = impl.HintedOutline(a.h, a.o)
	r.outlines[1], r.numbers[2], r.codes[5] = impl.HintGlyph(a.s, a.values, a.index, a.glyphSize)
	return r
}

// checkZero holds everything that comes with an error to be 0.
func (r hinterResults) checkZero(t *testing.T) {
	t.Helper()
	for i, code := range r.codes {
		if code == impl.OK {
			continue
		}
		isZero := i < 4 && sameState(r.states[min(i, 3)], hinter{}) || i >= 4 && len(r.outlines[max(i-4, 0)].Loops) == 0
		if i >= 3 {
			isZero = isZero && r.numbers[i-3] == 0
		}
		check(t, show("zero with an error", i, r), isZero, true)
	}
}

// randomHinterArguments returns arguments that fit together, with some that do not.
func randomHinterArguments(t *testing.T, random *rand.Rand, bads []hinter) hinterArguments {
	a := hinterArguments{h: randomHinter(random), i: randomStep(random), o: randomOutline(random), advance: random.Int63n(2000), size: 1 + random.Int63n(128), unit: 16 + random.Int63n(5000), values: make([]int64, random.Intn(17)), glyphSize: 1 + random.Int63n(128)}
	a.s = randomHintedSet(t, random, len(a.values))
	a.index = random.Int63n(int64(1 + len(a.s.Glyphs)))
	a.program, _ = wantedProgramOf(randomDeeds(random, a.h, random.Intn(6), 2))
	if random.Intn(2) == 0 {
		if h, code := wantedStart(a.o, a.advance, nil, 1, a.unit); code == impl.OK {
			a.h = h
		}
	}
	a.other = copyOfHinter(a.h)
	numbers := extremeNumbers()
	switch random.Intn(8) {
	case 0:
		a.h, a.s = pick(random, bads), pick(random, badSets())
	case 1:
		a.i, a.program, a.o = hint{Code: pick(random, numbers), Operand: pick(random, numbers)}, pick(random, []string{"\xff", "\x27", strings.Repeat("\x01", 401)}), pick(random, badOutlines())
	case 2:
		a.advance, a.size, a.unit, a.index, a.glyphSize = pick(random, numbers), pick(random, numbers), pick(random, numbers), pick(random, numbers), pick(random, numbers)
	case 3:
		a.values = append(a.values, pick(random, numbers))
		a.other = randomHinter(random)
	}
	a.h, a.other, a.o, a.s, a.values = roomyHinter(a.h), roomyHinter(a.other), roomyOutline(a.o), roomySet(a.s), roomySlice(a.values, 77)
	return a
}

// TestHintMachineTotal is promise 1 for chapter 20: all functions return for all arguments, twice alike, in new memory, and keep their arguments.
func TestHintMachineTotal(t *testing.T) {
	t.Parallel()
	random, bads, goods := fixedRandom(), badHinters(), map[int]int{}
	for range 1200 {
		a := randomHinterArguments(t, random, bads)
		memory := func() string {
			return show(hinterMemory(a.h), hinterMemory(a.other), outlineMemory(a.o), glyphMemory(a.s.Glyphs[:cap(a.s.Glyphs)]...), a.values[:cap(a.values)])
		}
		before := memory()
		first := hinterResultsOf(a)
		first.checkZero(t)
		for k, code := range first.codes {
			if code == impl.OK {
				goods[k]++
			}
		}
		shown := show(first)
		check(t, "arguments after all calls", memory(), before)
		for _, h := range first.states {
			overwriteHinter(t, h)
		}
		overwriteGlyphs(t, glyph{Outline: first.outlines[0]}, glyph{Outline: first.outlines[1]})
		check(t, "arguments after results are overwritten", memory(), before)
		if shown != show(hinterResultsOf(a)) {
			t.Fatal("equal arguments have different results: ", a)
		}
	}
	for i := range 6 {
		if goods[i] < 100 {
			t.Errorf("too few results without an error: %v", goods)
		}
	}
}
