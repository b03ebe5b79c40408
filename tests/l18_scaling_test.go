package tests

import (
	"math/big"
	"math/rand"
	"regexp"
	"slices"
	"strconv"
	"strings"
	"testing"

	"loop.example/g00883/impl"
)

// farthest is the greatest number of parts, either way, that is rounded.
const farthest = 1 << 40

func TestScalingConstants(t *testing.T) {
	got := []int{impl.RsOff, impl.RsGrid, impl.RsHalf, impl.RsDouble, impl.RsDown, impl.RsUp, impl.Pixel, impl.MaxSize}
	check(t, "constants", show(got), show([]int{0, 1, 2, 3, 4, 5, 64, 128}))
}

// quotient returns a product divided by another one, rounded as chapter 3 says.
func quotient(above, below [2]int64) int64 {
	n := new(big.Int).Mul(big.NewInt(above[0]), big.NewInt(above[1]))
	d := new(big.Int).Mul(big.NewInt(below[0]), big.NewInt(below[1]))
	return roundOf(new(big.Rat).SetFrac(n, d))
}

// canScale tells what the document says of the arguments of ScaleTo and ScaleBack.
func canScale(v, size, unit int64) bool {
	return v >= -262144 && v <= 262144 && size >= 1 && size <= 128 && unit >= 16 && unit <= 16384
}

// checkScale holds ScaleTo and ScaleBack against exact quotients.
func checkScale(t *testing.T, v, size, unit int64) {
	t.Helper()
	to, back, due := int64(0), int64(0), int64(impl.ErrRange)
	if canScale(v, size, unit) {
		to, back, due = quotient([2]int64{v, size * 64}, [2]int64{unit, 1}), quotient([2]int64{v, unit}, [2]int64{size, 64}), impl.OK
	}
	got, code := impl.ScaleTo(v, size, unit)
	if got != to || code != due {
		t.Errorf("ScaleTo(%d, %d, %d): got %d and %s, want %d and %s", v, size, unit, got, impl.CodeName(code), to, impl.CodeName(due))
	}
	got, code = impl.ScaleBack(v, size, unit)
	if got != back || code != due {
		t.Errorf("ScaleBack(%d, %d, %d): got %d and %s, want %d and %s", v, size, unit, got, impl.CodeName(code), back, impl.CodeName(due))
	}
}

func TestScaleTo(t *testing.T) {
	for _, c := range []struct{ v, size, unit, want, code int64 }{
		{500, 12, 1000, 384, 0}, {-500, 12, 1000, -384, 0}, {0, 12, 1000, 0, 0}, {1, 12, 1000, 1, 0}, {-1, 12, 1000, -1, 0},
		// Halves are rounded up, also those of negative numbers.
		{1, 1, 128, 1, 0}, {-1, 1, 128, 0, 0}, {3, 1, 128, 2, 0}, {-3, 1, 128, -1, 0}, {-5, 1, 128, -2, 0}, {-125, 1, 16000, 0, 0}, {-126, 1, 16000, -1, 0},
		{262144, 128, 16, 134217728, 0}, {-262144, 128, 16, -134217728, 0}, {262144, 1, 16384, 1024, 0},
		{262145, 12, 1000, 0, 2}, {-262145, 12, 1000, 0, 2}, {1, 0, 1000, 0, 2}, {1, -1, 1000, 0, 2}, {1, 129, 1000, 0, 2},
		{1, 1, 15, 0, 2}, {1, 1, 16385, 0, 2}, {1, 1, 0, 0, 2}, {1, 1, -1000, 0, 2}, {0, 0, 0, 0, 2},
	} {
		got, code := impl.ScaleTo(c.v, c.size, c.unit)
		check(t, show("ScaleTo", c.v, c.size, c.unit), show(got, code), show(c.want, c.code))
	}
}

func TestScaleBack(t *testing.T) {
	for _, c := range []struct{ v, size, unit, want, code int64 }{
		{384, 12, 1000, 500, 0}, {-384, 12, 1000, -500, 0}, {0, 12, 1000, 0, 0}, {1, 12, 1000, 1, 0}, {-1, 12, 1000, -1, 0},
		{1, 1, 32, 1, 0}, {-1, 1, 32, 0, 0}, {3, 1, 32, 2, 0}, {-3, 1, 32, -1, 0}, {-5, 1, 32, -2, 0}, {1, 1, 31, 0, 0}, {-1, 1, 33, -1, 0},
		{262144, 1, 16384, 67108864, 0}, {-262144, 1, 16384, -67108864, 0}, {262144, 128, 16, 512, 0},
		{262145, 12, 1000, 0, 2}, {-262145, 12, 1000, 0, 2}, {1, 0, 1000, 0, 2}, {1, -1, 1000, 0, 2}, {1, 129, 1000, 0, 2},
		{1, 1, 15, 0, 2}, {1, 1, 16385, 0, 2}, {1, 1, 0, 0, 2}, {1, 1, -1000, 0, 2}, {0, 0, 0, 0, 2},
	} {
		got, code := impl.ScaleBack(c.v, c.size, c.unit)
		check(t, show("ScaleBack", c.v, c.size, c.unit), show(got, code), show(c.want, c.code))
	}
}

func TestScalesExact(t *testing.T) {
	values, sizes, units := []int64{-262145, -262144, 0, 1, 262144, 262145}, []int64{-1, 0, 1, 2, 128, 129}, []int64{-16, 0, 15, 16, 17, 1000, 16384, 16385}
	values, sizes, units = append(values, extremeNumbers()...), append(sizes, extremeNumbers()...), append(units, extremeNumbers()...)
	for _, v := range values {
		for _, size := range sizes {
			for _, unit := range units {
				checkScale(t, v, size, unit)
			}
		}
	}
	random := fixedRandom()
	for range 20000 {
		checkScale(t, random.Int63n(1<<(1+random.Intn(19)))-random.Int63n(1<<(1+random.Intn(18))), 1+random.Int63n(128), 16+random.Int63n(1<<(1+random.Intn(14))))
	}
}

// TestScaledAndBack holds that units are restored from parts where a unit is more than a part, and that both ways keep the order.
func TestScaledAndBack(t *testing.T) {
	random := fixedRandom()
	restored := 0
	for range 20000 {
		v, size, unit := random.Int63n(20001)-10000, 1+random.Int63n(128), 16+random.Int63n(2000)
		there, _ := impl.ScaleTo(v, size, unit)
		back, code := impl.ScaleBack(there, size, unit)
		if size*64 > unit && code == impl.OK {
			check(t, show("back", v, size, unit), back, v)
			restored++
		}
		next, _ := impl.ScaleTo(v+1, size, unit)
		check(t, show("the next one is not less", v, size, unit), next >= there, true)
		less, _ := impl.ScaleBack(v, size, unit)
		more, _ := impl.ScaleBack(v+1, size, unit)
		check(t, show("the next one back is not less", v, size, unit), more >= less, true)
	}
	check(t, "many are restored", restored > 10000, true)
}

// downTo returns the greatest multiple of m that is not greater than v.
func downTo(v, m int64) int64 { return m * floorOf(ratio(v, m)) }

// wantedRoundTo tells what the document says of RoundTo.
func wantedRoundTo(v, state int64) int64 {
	if v < -farthest || v > farthest {
		return v
	}
	switch state {
	case 1:
		return downTo(v+32, 64)
	case 2:
		return downTo(v, 64) + 32
	case 3:
		return downTo(v+16, 32)
	case 4:
		return downTo(v, 64)
	case 5:
		up := downTo(v, 64)
		for up < v {
			up += 64
		}
		return up
	default:
		return v
	}
}

// wantedKeep tells what the document says of KeepRound.
func wantedKeep(v, state, least int64) int64 {
	switch {
	case v < -farthest || v > farthest || least < 0 || least > farthest:
		return v
	case v < 0:
		return -wantedKeep(-v, state, least)
	default:
		return max(wantedRoundTo(v, state), least)
	}
}

// someParts returns numbers around 0, at the limits of rounding and beyond them, and in between.
func someParts(random *rand.Rand) []int64 {
	list := extremeNumbers()
	for n := int64(-300); n <= 300; n++ {
		list = append(list, n, farthest+n, -farthest+n)
	}
	for range 2000 {
		list = append(list, random.Int63n(farthest)-random.Int63n(farthest), random.Int63n(100000)-50000)
	}
	return list
}

func TestRoundTo(t *testing.T) {
	for _, c := range []struct{ v, off, grid, half, double, down, up int64 }{
		{-100, -100, -128, -96, -96, -128, -64}, {-97, -97, -128, -96, -96, -128, -64}, {-96, -96, -64, -96, -96, -128, -64}, {-95, -95, -64, -96, -96, -128, -64},
		{-81, -81, -64, -96, -96, -128, -64}, {-80, -80, -64, -96, -64, -128, -64}, {-65, -65, -64, -96, -64, -128, -64}, {-64, -64, -64, -32, -64, -64, -64},
		{-63, -63, -64, -32, -64, -64, 0}, {-33, -33, -64, -32, -32, -64, 0}, {-32, -32, 0, -32, -32, -64, 0}, {-17, -17, 0, -32, -32, -64, 0}, {-16, -16, 0, -32, 0, -64, 0},
		{-1, -1, 0, -32, 0, -64, 0}, {0, 0, 0, 32, 0, 0, 0}, {1, 1, 0, 32, 0, 0, 64}, {15, 15, 0, 32, 0, 0, 64}, {16, 16, 0, 32, 32, 0, 64},
		{31, 31, 0, 32, 32, 0, 64}, {32, 32, 64, 32, 32, 0, 64}, {47, 47, 64, 32, 32, 0, 64}, {48, 48, 64, 32, 64, 0, 64}, {63, 63, 64, 32, 64, 0, 64},
		{64, 64, 64, 96, 64, 64, 64}, {65, 65, 64, 96, 64, 64, 128},
		{farthest, farthest, farthest, farthest + 32, farthest, farthest, farthest}, {-farthest, -farthest, -farthest, -farthest + 32, -farthest, -farthest, -farthest},
		{farthest - 1, farthest - 1, farthest, farthest - 32, farthest, farthest - 64, farthest},
	} {
		for state, want := range []int64{c.off, c.grid, c.half, c.double, c.down, c.up} {
			check(t, show("RoundTo", c.v, state), impl.RoundTo(c.v, int64(state)), want)
		}
	}
}

func TestRoundToExact(t *testing.T) {
	for _, v := range someParts(fixedRandom()) {
		for state := int64(-2); state <= 8; state++ {
			check(t, show("RoundTo", v, state), impl.RoundTo(v, state), wantedRoundTo(v, state))
		}
		for _, state := range extremeNumbers() {
			check(t, show("RoundTo", v, state), impl.RoundTo(v, state), wantedRoundTo(v, state))
		}
	}
}

// TestRoundedOnceInOrder is promise 19: a rounded number stays as it is, and greater numbers do not become less than others.
func TestRoundedOnceInOrder(t *testing.T) {
	list := slices.DeleteFunc(someParts(fixedRandom()), func(v int64) bool { return v < -farthest || v > farthest })
	slices.Sort(list)
	for state := int64(0); state <= 5; state++ {
		moved := 0
		for i, v := range list {
			rounded := impl.RoundTo(v, state)
			check(t, show("rounded again", v, state), impl.RoundTo(rounded, state), rounded)
			check(t, show("moved by less than a pixel", v, state), rounded-v < 64 && v-rounded < 64, true)
			if i > 0 {
				check(t, show("in order", v, state), impl.RoundTo(list[i-1], state) <= rounded, true)
			}
			if rounded != v {
				moved++
			}
		}
		check(t, show("many are rounded, but not without a state", state), moved > 1000, state != impl.RsOff)
	}
}

func TestKeepRound(t *testing.T) {
	for _, c := range []struct{ v, state, least, want int64 }{
		{10, impl.RsGrid, 64, 64}, {-10, impl.RsGrid, 64, -64}, {-100, impl.RsGrid, 0, -128}, {100, impl.RsGrid, 0, 128}, {-96, impl.RsGrid, 0, -128}, {96, impl.RsGrid, 0, 128},
		{0, impl.RsGrid, 64, 64}, {0, impl.RsGrid, 0, 0}, {-1, impl.RsGrid, 0, 0}, {-1, impl.RsUp, 0, -64}, {-1, impl.RsDown, 0, 0}, {-1, impl.RsHalf, 0, -32}, {0, impl.RsHalf, 0, 32},
		{-65, impl.RsDown, 64, -64}, {-65, impl.RsUp, 64, -128}, {-127, impl.RsDown, 65, -65}, {200, impl.RsOff, 64, 200}, {20, impl.RsOff, 64, 64}, {-20, impl.RsOff, 64, -64},
		// A state that is none rounds nothing, but the least distance is kept.
		{10, 9, 0, 10}, {10, 9, 64, 64}, {-10, -1, 64, -64}, {-100, 6, 64, -100},
		// Here nothing is done.
		{10, impl.RsGrid, -1, 10}, {-10, impl.RsGrid, -1, -10}, {10, impl.RsGrid, farthest + 1, 10}, {farthest + 1, impl.RsGrid, 64, farthest + 1}, {-farthest - 1, impl.RsGrid, 64, -farthest - 1},
		{10, impl.RsGrid, farthest, farthest}, {-10, impl.RsGrid, farthest, -farthest}, {farthest, impl.RsHalf, 0, farthest + 32}, {-farthest, impl.RsHalf, 0, -farthest - 32},
	} {
		check(t, show("KeepRound", c.v, c.state, c.least), impl.KeepRound(c.v, c.state, c.least), c.want)
	}
}

func TestKeepRoundExact(t *testing.T) {
	random := fixedRandom()
	leasts := append(extremeNumbers(), 32, 63, 64, 65, 100, 128, farthest-1, farthest, farthest+1)
	for _, v := range someParts(random) {
		for state := int64(-1); state <= 6; state++ {
			least := pick(random, leasts)
			if random.Intn(2) == 0 {
				least = random.Int63n(200)
			}
			check(t, show("KeepRound", v, state, least), impl.KeepRound(v, state, least), wantedKeep(v, state, least))
		}
	}
	for v := int64(-200); v <= 200; v++ {
		for least := int64(0); least <= 130; least++ {
			for state := int64(0); state <= 5; state++ {
				got := impl.KeepRound(v, state, least)
				check(t, show("KeepRound", v, state, least), got, wantedKeep(v, state, least))
				check(t, show("kept", v, state, least), v >= 0 && got >= least || v < 0 && got <= -least, true)
				check(t, show("in order", v, state, least), got <= impl.KeepRound(v+1, state, least), true)
			}
		}
	}
}

func TestStateNames(t *testing.T) {
	names := []string{"off", "grid", "half", "double", "down", "up"}
	for state, name := range names {
		check(t, "name", impl.StateName(int64(state)), name)
		check(t, name, impl.StateNamed(name), int64(state))
		for _, other := range edited(name, "aG \x00", "off") {
			check(t, show("StateNamed", other), impl.StateNamed(other), int64(slices.Index(names, other)))
		}
		check(t, "capitals", impl.StateNamed(strings.ToUpper(name)), -1)
	}
	for _, state := range append(extremeNumbers(), 6, 7, -1) {
		if state < 0 || state > 5 {
			check(t, show("StateName", state), impl.StateName(state), "")
		}
	}
	for _, s := range append(oddTexts(), impl.CodeName(2), "Rs", "RsGrid") {
		check(t, show("StateNamed", s), impl.StateNamed(s), -1)
	}
}

// wantedPlaces returns an outline with other places for all knots, and OK, or ErrRange if it is not valid.
func wantedPlaces(o outline, place func(p pt) pt) (outline, int64) {
	var list outline
	for _, l := range o.Loops {
		var knots []impl.Knot
		for _, k := range l.Knots {
			knots = append(knots, impl.Knot{At: place(k.At), On: k.On})
		}
		list.Loops = append(list.Loops, loop{Knots: knots})
	}
	if !outlineIsValid(list) {
		return outline{}, impl.ErrRange
	}
	return list, impl.OK
}

func checkScaledOutline(t *testing.T, o outline, size, unit int64) int64 {
	t.Helper()
	want, due := outline{}, int64(impl.ErrInvalid)
	if outlineIsValid(o) {
		due = impl.ErrRange
		if canScale(0, size, unit) {
			want, due = wantedPlaces(o, func(p pt) pt {
				return at(quotient([2]int64{p.X, size * 64}, [2]int64{unit, 1}), quotient([2]int64{p.Y, size * 64}, [2]int64{unit, 1}))
			})
		}
	}
	got, code := impl.ScaleOutline(o, size, unit)
	if show(got) != show(want) || code != due {
		t.Errorf("ScaleOutline(%v, %d, %d): got %v and %s, want %v and %s", o, size, unit, got, impl.CodeName(code), want, impl.CodeName(due))
	}
	return code
}

func TestScaleOutline(t *testing.T) {
	for _, c := range []struct {
		lines      []string
		size, unit int64
		want       []string
		code       int64
	}{
		{[]string{"0,0 ~500,0 500,500"}, 12, 1000, []string{"0,0 ~384,0 384,384"}, 0},
		{[]string{"-1,-3 ~1,3", "5,-5"}, 1, 128, []string{"0,-1 ~1,2", "3,-2"}, 0},
		{nil, 12, 1000, nil, 0}, {nil, 0, 1000, nil, 2}, {nil, 129, 1000, nil, 2}, {nil, 12, 15, nil, 2}, {nil, 12, 16385, nil, 2},
		{[]string{"0,0"}, 128, 16, []string{"0,0"}, 0}, {[]string{"0,0"}, 128, 15, nil, 2},
		// The result has to be valid, and halves are rounded up.
		{[]string{"262144,-262144"}, 1, 64, []string{"262144,-262144"}, 0}, {[]string{"262144,0"}, 1, 63, nil, 2}, {[]string{"0,-262144"}, 1, 63, nil, 2},
		{[]string{"0,0 ~-174763,-174763"}, 3, 128, []string{"0,0 ~-262144,-262144"}, 0}, {[]string{"0,0 ~0,174763"}, 3, 128, nil, 2}, {[]string{"0,0", "1,1 ~174763,0"}, 3, 128, nil, 2},
	} {
		got, code := impl.ScaleOutline(outlineOf(c.lines...), c.size, c.unit)
		check(t, show("ScaleOutline", c.lines, c.size, c.unit), show(got, code), show(outlineOf(c.want...), c.code))
		checkScaledOutline(t, outlineOf(c.lines...), c.size, c.unit)
	}
	for _, o := range badOutlines() {
		checkScaledOutline(t, o, 12, 1000)
		checkScaledOutline(t, o, 0, 0)
	}
}

func TestScaleOutlineRandom(t *testing.T) {
	random := fixedRandom()
	codes := map[int64]int{}
	for range 3000 {
		codes[checkScaledOutline(t, randomOutline(random), random.Int63n(131), 14+random.Int63n(1<<(1+random.Intn(14))))]++
	}
	for _, o := range goodOutlines() {
		for _, size := range []int64{1, 12, 128} {
			codes[checkScaledOutline(t, o, size, 1000)]++
		}
	}
	check(t, show("both codes", codes), codes[impl.OK] > 1000 && codes[impl.ErrRange] > 300, true)
}

func checkMovedOutline(t *testing.T, o outline, by pt) int64 {
	t.Helper()
	want, due := outline{}, int64(impl.ErrInvalid)
	if outlineIsValid(o) && isPlace(by) {
		want, due = wantedPlaces(o, func(p pt) pt { return at(p.X+by.X, p.Y+by.Y) })
	}
	got, code := impl.MoveOutline(o, by)
	if show(got) != show(want) || code != due {
		t.Errorf("MoveOutline(%v, %v): got %v and %s, want %v and %s", o, by, got, impl.CodeName(code), want, impl.CodeName(due))
	}
	return code
}

func TestMoveOutline(t *testing.T) {
	for _, c := range []struct {
		lines []string
		by    pt
		want  []string
		code  int64
	}{
		{[]string{"0,0 ~500,0 500,500"}, at(-1, 2), []string{"-1,2 ~499,2 499,502"}, 0},
		{[]string{"0,0", "5,5 ~6,6"}, at(0, 0), []string{"0,0", "5,5 ~6,6"}, 0},
		{nil, at(262144, -262144), nil, 0}, {nil, at(262145, 0), nil, 1}, {nil, at(0, -262145), nil, 1},
		{[]string{"0,0"}, at(262144, -262144), []string{"262144,-262144"}, 0}, {[]string{"262144,-262144"}, at(-262144, 262144), []string{"0,0"}, 0},
		{[]string{"1,0"}, at(262144, 0), nil, 2}, {[]string{"0,0 ~0,-1"}, at(0, -262144), nil, 2}, {[]string{"0,0", "5,5", "0,0 ~262144,0"}, at(1, 0), nil, 2},
		{[]string{"1,0"}, at(262145, 0), nil, 1}, {[]string{"-262144,-262144"}, at(262144, 262144), []string{"0,0"}, 0},
	} {
		got, code := impl.MoveOutline(outlineOf(c.lines...), c.by)
		check(t, show("MoveOutline", c.lines, c.by), show(got, code), show(outlineOf(c.want...), c.code))
		checkMovedOutline(t, outlineOf(c.lines...), c.by)
	}
	for _, o := range badOutlines() {
		checkMovedOutline(t, o, at(1, 2))
		checkMovedOutline(t, o, at(262145, 0))
	}
	for _, by := range badPts() {
		checkMovedOutline(t, outlineOf("0,0 ~9,9"), by)
		checkMovedOutline(t, outline{}, by)
	}
}

func TestMoveOutlineRandom(t *testing.T) {
	random := fixedRandom()
	codes := map[int64]int{}
	for range 3000 {
		o, by := randomOutline(random), placeIn(random, 1<<random.Intn(19))
		code := checkMovedOutline(t, o, by)
		codes[code]++
		if moved, _ := impl.MoveOutline(o, by); code == impl.OK {
			back, _ := impl.MoveOutline(moved, at(-by.X, -by.Y))
			check(t, show("moved back", o, by), impl.SameOutline(back, o), true)
		}
	}
	check(t, show("both codes", codes), codes[impl.OK] > 1000 && codes[impl.ErrRange] > 50, true)
}

func TestPixels(t *testing.T) {
	for _, c := range []struct {
		v    int64
		text string
	}{
		{-100, "-1:36"}, {5, "0:05"}, {640, "10:00"}, {0, "0:00"}, {-1, "-0:01"}, {1, "0:01"}, {63, "0:63"}, {64, "1:00"}, {-63, "-0:63"}, {-64, "-1:00"}, {-65, "-1:01"},
		{9, "0:09"}, {10, "0:10"}, {farthest, "17179869184:00"}, {-farthest, "-17179869184:00"}, {farthest - 1, "17179869183:63"},
	} {
		check(t, "PixelsText", impl.PixelsText(c.v), c.text)
		v, ok := impl.ReadPixels(c.text)
		check(t, c.text, show(v, ok), show(c.v, true))
	}
	for _, v := range []int64{farthest + 1, -farthest - 1, farthest * 2} {
		check(t, show("PixelsText", v), impl.PixelsText(v), "")
	}
	for _, text := range []string{"17179869184:01", "-17179869184:01", "17179869185:00", "", "1:64", "01:00", "1:5", "-0:00", "1", "1:a0", ":05", "--1:00", "+1:00", "1:00:", "1:00 ", "1:-5", "1:+5", "1::5", "0:005", "1:0 ", "-", ":", "1:99",
		"144115188075855872:00", "288230376151711744:00", "288230376151711745:00", "999999999999999999:63", "1000000000000000000:00", "18446744073709551616:00"} {
		v, ok := impl.ReadPixels(text)
		check(t, text, show(v, ok), show(0, false))
	}
}

var pixelsForm = regexp.MustCompile(`\A(-?)(0|[1-9][0-9]{0,10}):([0-5][0-9]|6[0-3])\z`)

// wantedPixels tells what the document says of ReadPixels.
func wantedPixels(s string) (int64, bool) {
	m := pixelsForm.FindStringSubmatch(s)
	if m == nil {
		return 0, false
	}
	whole, _ := strconv.ParseInt(m[2], 10, 64)
	rest, _ := strconv.ParseInt(m[3], 10, 64)
	v := 64*whole + rest
	if v > farthest || v == 0 && m[1] != "" {
		return 0, false
	}
	if m[1] != "" {
		v = -v
	}
	return v, true
}

func checkReadPixels(t *testing.T, s string) bool {
	t.Helper()
	want, due := wantedPixels(s)
	v, ok := impl.ReadPixels(s)
	if v != want || ok != due {
		t.Errorf("ReadPixels(%q): got %d %v, want %d %v", s, v, ok, want, due)
	}
	return ok
}

// TestPixelsRestored holds that numbers of parts are restored from their texts, and that no other text is read.
func TestPixelsRestored(t *testing.T) {
	for _, v := range someParts(fixedRandom()) {
		text := impl.PixelsText(v)
		want, due := wantedPixels(text)
		got, ok := impl.ReadPixels(text)
		check(t, show("PixelsText", v, text), show(got, ok), show(want, due))
		check(t, show("a text if not too far", v), ok, v >= -farthest && v <= farthest)
		if ok {
			check(t, text, got, v)
		}
	}
	read, others := 0, 0
	for _, text := range []string{"-1:36", "0:05", "10:00", "-17179869184:00", "999:63"} {
		for _, other := range edited(text, "0159-:+ a\x00", "-") {
			if checkReadPixels(t, other) {
				read++
			} else {
				others++
			}
		}
	}
	check(t, show("both kinds", read, others), read > 50 && others > 200, true)
	for _, text := range oddTexts() {
		checkReadPixels(t, text)
	}
}

// scalingArguments are arguments of the functions of chapter 18, valid or not.
type scalingArguments struct {
	o             outline
	by            pt
	v, size, unit int64
	text          string
}

type scalingResults struct {
	to, back, round, keep, named, pixels int64
	name, text                           string
	scaled, moved                        outline
	isRead                               bool
	codes                                [4]int64
}

func scalingResultsOf(a scalingArguments) scalingResults {
	var r scalingResults
	r.to, r.codes[0] = impl.ScaleTo(a.v, a.size, a.unit)
	r.back, r.codes[1] = impl.ScaleBack(a.v, a.size, a.unit)
	r.scaled, r.codes[2] = impl.ScaleOutline(a.o, a.size, a.unit)
	r.moved, r.codes[3] = impl.MoveOutline(a.o, a.by)
	r.round, r.keep = impl.RoundTo(a.v, a.size), impl.KeepRound(a.v, a.size, a.unit)
	r.name, r.named, r.text = impl.StateName(a.size), impl.StateNamed(a.text), impl.PixelsText(a.v)
	r.pixels, r.isRead = impl.ReadPixels(a.text)
	return r
}

// checkZero holds everything that comes with an error to be 0.
func (r scalingResults) checkZero(t *testing.T) {
	t.Helper()
	for i, empty := range []bool{r.to == 0, r.back == 0, len(r.scaled.Loops) == 0, len(r.moved.Loops) == 0} {
		check(t, show("zero with an error", i, r), r.codes[i] == impl.OK || empty, true)
	}
	check(t, show("zero with false", r), r.isRead || r.pixels == 0, true)
}

// overwriteResults writes into the memory of both outlines, which must not be shared.
func (r scalingResults) overwriteResults(t *testing.T) {
	t.Helper()
	lists := [][]loop{r.scaled.Loops, r.moved.Loops}
	for i, list := range lists {
		for k, l := range list {
			overwrite(l.Knots, impl.Knot{At: at(int64(i), int64(k))})
		}
	}
	for i, list := range lists {
		for k, l := range list {
			check(t, "no other knots here", l.Knots[0].At, at(int64(i), int64(k)))
		}
		overwrite(list, loop{})
	}
}

// TestScalingTotal is promise 1 for chapter 18: all functions return for all arguments, twice alike, in new memory, and keep their arguments.
func TestScalingTotal(t *testing.T) {
	t.Parallel()
	random := fixedRandom()
	outlines, places, numbers := append(badOutlines(), goodOutlines()...), append(badPts(), cornerPts()...), extremeNumbers()
	texts := append(oddTexts(), "grid", "off", "-1:36", "0:05", "1:64")
	for range 5000 {
		a := scalingArguments{o: roomyOutline(pick(random, outlines)), by: pick(random, places), v: pick(random, numbers), size: pick(random, numbers), unit: pick(random, numbers), text: pick(random, texts)}
		if random.Intn(3) > 0 {
			a.o, a.by = roomyOutline(randomOutline(random)), placeIn(random, 1000)
			a.v, a.size, a.unit = random.Int63n(1000)-500, random.Int63n(8)-1, 15+random.Int63n(2000)
		}
		before := outlineMemory(a.o)
		first := scalingResultsOf(a)
		first.checkZero(t)
		shown := show(first)
		check(t, "arguments after all calls", outlineMemory(a.o), before)
		first.overwriteResults(t)
		check(t, "arguments after results are overwritten", outlineMemory(a.o), before)
		if shown != show(scalingResultsOf(a)) {
			t.Fatal("equal arguments have different results: ", a)
		}
	}
}
