package tests

import (
	"fmt"
	"math/big"
	"math/rand"
	"slices"
	"strings"
	"testing"

	"loop.example/g00883/impl"
)

type (
	quad    = impl.Quad
	loop    = impl.Loop
	outline = impl.Outline
	region  = impl.Region
)

func quadOf(list ...pt) quad { return quad{A: list[0], B: list[1], C: list[2]} }

func quadControls(q quad) []pt { return []pt{q.A, q.B, q.C} }

// goodQuads returns the curves of the first three control points of valid cubics.
func goodQuads(count int) []quad {
	var list []quad
	for _, c := range manyCubics(count) {
		list = append(list, quadOf(c.A, c.B, c.C))
	}
	return list
}

func badQuads() []quad {
	var list []quad
	for i := range 3 {
		for _, bad := range badPts() {
			points := []pt{at(1, 2), at(-3, 4), at(5, -6)}
			points[i] = bad
			list = append(list, quadOf(points...))
		}
	}
	return list
}

func TestOutlineConstants(t *testing.T) {
	check(t, "limits", [2]int64{impl.MaxKnots, impl.MaxLoops}, [2]int64{60, 12})
}

func TestQuadAt(t *testing.T) {
	corner, down := quadOf(at(0, 0), at(8, 0), at(8, 8)), quadOf(at(0, 0), at(0, 0), at(2, -2))
	cases := []struct {
		q        quad
		k, level int64
		want     pt
	}{
		{corner, 1, 1, at(6, 2)}, {corner, 0, 0, at(0, 0)}, {corner, 1, 0, at(8, 8)}, {corner, 1, 2, at(4, 1)}, {corner, 3, 2, at(8, 5)}, {corner, 64, 6, at(8, 8)}, {corner, 32, 6, at(6, 2)},
		// Halves are rounded up: 2 / 4 is 1, and -2 / 4 is 0.
		{down, 1, 1, at(1, 0)}, {down, 3, 2, at(1, -1)},
	}
	for _, c := range cases {
		got, code := impl.QuadAt(c.q, c.k, c.level)
		check(t, show("QuadAt", c.q, c.k, c.level), show(got, code), show(c.want, impl.OK))
	}
	for i, q := range goodQuads(300) {
		for level := range int64(impl.MaxLevel + 1) {
			for k := range int64(1)<<level + 1 {
				if i%5 != 0 && (k+level)%7 != 0 {
					continue
				}
				got, code := impl.QuadAt(q, k, level)
				check(t, show("QuadAt", q, k, level), show(got, code), show(bernstein(ratio(k, 1<<level), quadControls(q)...).rounded(), impl.OK))
			}
		}
	}
	for _, place := range badPlaces() {
		for _, q := range []quad{corner, {}} {
			got, code := impl.QuadAt(q, place[0], place[1])
			check(t, show("QuadAt", q, place), show(got, code), show(pt{}, impl.ErrRange))
		}
	}
	for _, bad := range badQuads() {
		for _, place := range append(badPlaces(), [2]int64{0, 0}, [2]int64{1, 1}) {
			got, code := impl.QuadAt(bad, place[0], place[1])
			check(t, show("QuadAt", bad, place), show(got, code), show(pt{}, impl.ErrInvalid))
		}
	}
}

// wantedPath returns the points of a quadratic for a tolerance, by the words of the document.
func wantedPath(q quad, tolerance int64) ([]pt, int64) {
	level, due := wantedLevel(sizeOf(secondDifference(q.A, q.B, q.C)), tolerance)
	if due != impl.OK {
		return nil, due
	}
	var list []pt
	for k := range int64(1)<<level + 1 {
		p, _ := impl.QuadAt(q, k, level)
		list = append(list, p)
	}
	return list, impl.OK
}

func TestFlattenQuad(t *testing.T) {
	corner := quadOf(at(0, 0), at(8, 0), at(8, 8))
	cases := []struct {
		q         quad
		tolerance int64
		want      []pt
		code      int64
	}{
		{corner, 1, []pt{at(0, 0), at(6, 2), at(8, 8)}, impl.OK}, {corner, 4, []pt{at(0, 0), at(8, 8)}, impl.OK}, {corner, 3, []pt{at(0, 0), at(6, 2), at(8, 8)}, impl.OK}, {quad{}, 1, []pt{{}, {}}, impl.OK},
		{quadOf(at(4, 0), at(0, 0), at(0, 0)), 1, []pt{at(4, 0), at(0, 0)}, impl.OK}, {quadOf(at(5, 0), at(0, 0), at(0, 0)), 1, []pt{at(5, 0), at(1, 0), at(0, 0)}, impl.OK},
		{quadOf(at(16385, 0), at(0, 0), at(0, 0)), 1, nil, impl.ErrFull}, {quadOf(at(0, 0), at(0, -10000), at(0, 0)), 1, nil, impl.ErrFull},
	}
	for _, c := range cases {
		got, code := impl.FlattenQuad(c.q, c.tolerance)
		check(t, show("FlattenQuad", c.q, c.tolerance), show(got, code), show(c.want, c.code))
	}
	for level := range 8 {
		for _, tolerance := range []int64{1, 2, 3, 5, 16} {
			limit := tolerance * 4 << (2 * level)
			for _, size := range []int64{limit - 1, limit, limit + 1} {
				q := quadOf(at(0, 0), at(0, 0), at(-(size/2), size-size/2))
				if !impl.ValidPt(q.C) {
					continue
				}
				got, code := impl.FlattenQuad(q, tolerance)
				want, due := wantedPath(q, tolerance)
				check(t, show("FlattenQuad at a limit", q, tolerance), show(got, code), show(want, due))
			}
		}
	}
	random := fixedRandom()
	found := map[int]int{}
	for _, q := range goodQuads(1000) {
		tolerance := 1 + random.Int63n(int64(1)<<random.Intn(19))
		got, code := impl.FlattenQuad(q, tolerance)
		want, due := wantedPath(q, tolerance)
		check(t, show("FlattenQuad", q, tolerance), show(got, code), show(want, due))
		found[len(got)]++
	}
	if len(found) != 8 {
		t.Errorf("the curves of this test do not reach all levels: %v", found)
	}
}

func TestToleranceOfQuads(t *testing.T) {
	for _, tolerance := range badTolerances() {
		for _, q := range goodQuads(0) {
			got, code := impl.FlattenQuad(q, tolerance)
			check(t, show("FlattenQuad", q, tolerance), show(got, code), show([]pt{}, impl.ErrRange))
		}
		for _, c := range goodCubics() {
			got, code := impl.QuadsOfCubic(c, tolerance)
			check(t, show("QuadsOfCubic", c, tolerance), show(got, code), show([]quad{}, impl.ErrRange))
		}
	}
	for _, tolerance := range append(badTolerances(), 1, 7, impl.MaxCoord) {
		for _, bad := range badQuads() {
			got, code := impl.FlattenQuad(bad, tolerance)
			check(t, show("FlattenQuad", bad, tolerance), show(got, code), show([]pt{}, impl.ErrInvalid))
		}
		for _, bad := range badCubics() {
			got, code := impl.QuadsOfCubic(bad, tolerance)
			check(t, show("QuadsOfCubic", bad, tolerance), show(got, code), show([]quad{}, impl.ErrInvalid))
		}
	}
}

// thirdOf returns the size of the third difference.
func thirdOf(c cubic) int64 {
	return sizeOf(at(c.D.X-3*c.C.X+3*c.B.X-c.A.X, c.D.Y-3*c.C.Y+3*c.B.Y-c.A.Y))
}

// wantedCount returns the least power of 2 for which a third difference is at most 20 * tolerance * n^3.
func wantedCount(third, tolerance int64) int64 {
	n := int64(1)
	for ratio(third, 20*tolerance).Cmp(ratio(n*n*n, 1)) > 0 {
		n *= 2
	}
	return n
}

// plusTimes returns p + t * q.
func (p exactPt) plusTimes(t *big.Rat, q exactPt) exactPt {
	x, y := new(big.Rat).Mul(t, q.x), new(big.Rat).Mul(t, q.y)
	return exactPt{x.Add(x, p.x), y.Add(y, p.y)}
}

// wantedQuad returns quadratic k of n. The control points of a part of a cubic follow from its slopes.
func wantedQuad(c cubic, k, n int64) quad {
	slopes := []pt{at(c.B.X-c.A.X, c.B.Y-c.A.Y), at(c.C.X-c.B.X, c.C.Y-c.B.Y), at(c.D.X-c.C.X, c.D.Y-c.C.Y)}
	from, to := ratio(k, n), ratio(k+1, n)
	p, s := bernstein(from, controlsOf(c)...), bernstein(to, controlsOf(c)...)
	q, r := p.plusTimes(ratio(1, n), bernstein(from, slopes...)), s.plusTimes(ratio(-1, n), bernstein(to, slopes...))
	b := exactPt{new(big.Rat), new(big.Rat)}.plusTimes(ratio(3, 4), q).plusTimes(ratio(-1, 4), p).plusTimes(ratio(3, 4), r).plusTimes(ratio(-1, 4), s)
	return quadOf(p.rounded(), b.rounded(), s.rounded())
}

func wantedQuads(c cubic, tolerance int64) ([]quad, int64) {
	var list []quad
	n := wantedCount(thirdOf(c), tolerance)
	for k := range n {
		q := wantedQuad(c, k, n)
		if !impl.ValidPt(q.B) {
			return nil, impl.ErrFull
		}
		list = append(list, q)
	}
	return list, impl.OK
}

// wideCubics returns curves with B and C at the limits, for which the B of a quadratic is often beyond them.
func wideCubics(random *rand.Rand) []cubic {
	var list []cubic
	for _, b := range cornerPts() {
		for _, c := range cornerPts() {
			list = append(list, cubicOf(placeIn(random, impl.MaxCoord), b, c, placeIn(random, impl.MaxCoord)))
		}
	}
	return list
}

func TestQuadsOfCubic(t *testing.T) {
	t.Parallel()
	cases := []struct {
		c         cubic
		tolerance int64
		want      []quad
		code      int64
	}{
		{cubicOf(at(0, 0), at(0, 8), at(8, 8), at(8, 0)), 1, []quad{quadOf(at(0, 0), at(4, 12), at(8, 0))}, impl.OK},
		{cubicOf(at(0, 0), at(8, 8), at(16, 8), at(24, 0)), 1, []quad{quadOf(at(0, 0), at(12, 12), at(24, 0))}, impl.OK},
		{cubicOf(at(0, 0), at(0, 30), at(0, -30), at(0, 0)), 4, []quad{quadOf(at(0, 0), at(0, 17), at(0, 0)), quadOf(at(0, 0), at(0, -17), at(0, 0))}, impl.OK},
		{cubic{}, 1, []quad{{}}, impl.OK}, {cubicOf(at(5, 5), at(5, 5), at(9, 7), at(9, 7)), 1, []quad{quadOf(at(5, 5), at(7, 6), at(9, 7))}, impl.OK},
		// Halves are rounded up: 3 * 2 / 4 is 2, and 3 * -2 / 4 is -1.
		{cubicOf(at(0, 0), at(2, -2), at(0, 0), at(0, 0)), 1, []quad{quadOf(at(0, 0), at(2, -1), at(0, 0))}, impl.OK},
	}
	for _, c := range cases {
		got, code := impl.QuadsOfCubic(c.c, c.tolerance)
		check(t, show("QuadsOfCubic", c.c, c.tolerance), show(got, code), show(c.want, c.code))
	}
	random := fixedRandom()
	found := map[int]int{}
	for _, c := range append(manyCubics(1000), wideCubics(random)...) {
		for _, tolerance := range []int64{1, impl.MaxCoord, 1 + random.Int63n(int64(1)<<random.Intn(19))} {
			got, code := impl.QuadsOfCubic(c, tolerance)
			want, due := wantedQuads(c, tolerance)
			check(t, show("QuadsOfCubic", c, tolerance), show(got, code), show(want, due))
			found[len(got)]++
		}
	}
	for _, count := range []int{0, 1, 2, 4, 8, 16, 32, 64} {
		if found[count] < 10 {
			t.Errorf("too few lists of a length: %v", found)
		}
	}
}

// TestQuadsCount checks the number of quadratics where the third difference is at a limit.
func TestQuadsCount(t *testing.T) {
	for _, c := range [][3]int64{{20, 1, 1}, {21, 1, 2}, {160, 1, 2}, {161, 1, 4}, {1280, 1, 4}, {1281, 1, 8}, {10240, 1, 8}, {10241, 1, 16}, {81920, 1, 16}, {81921, 1, 32}, {40, 2, 1}, {41, 2, 2}, {320, 2, 2}, {321, 2, 4}, {262144, 4, 16}, {262144, 3, 32}, {262144, 13108, 1}, {262144, 13107, 2}} {
		third, tolerance, want := c[0], c[1], int(c[2])
		for _, p := range []pt{at(third, 0), at(0, -third), at(-(third / 2), third-third/2)} {
			for _, curve := range []cubic{{A: p}, {D: p}} {
				list, code := impl.QuadsOfCubic(curve, tolerance)
				check(t, show("number of quadratics", curve, tolerance), show(len(list), code), show(want, impl.OK))
			}
		}
	}
	widest := goodCubics()[14]
	for _, c := range [][2]int64{{1, 64}, {6, 64}, {7, 32}, {51, 32}, {52, 16}, {409, 16}, {410, 8}, {3276, 8}, {3277, 4}, {26214, 4}, {26215, 2}, {209715, 2}, {209716, 1}, {impl.MaxCoord, 1}} {
		list, code := impl.QuadsOfCubic(widest, c[0])
		want, due := wantedQuads(widest, c[0])
		check(t, show("quadratics of the widest curve", c), show(list, code), show(want, due))
		check(t, show("number of them", c), wantedCount(thirdOf(widest), c[0]), c[1])
	}
}

// TestQuadsFull checks the limit of B.
func TestQuadsFull(t *testing.T) {
	const m = impl.MaxCoord
	// With A and D at 0, B is 3 / 4 of the sum of B and C, which is a multiple of 3 / 4 from -m * 3 / 2 to m * 3 / 2.
	for _, c := range []struct{ sum, code int64 }{{349525, impl.OK}, {349526, impl.ErrFull}, {-349525, impl.OK}, {-349526, impl.OK}, {-349527, impl.ErrFull}, {2 * m, impl.ErrFull}, {-2 * m, impl.ErrFull}} {
		half := c.sum / 2
		for _, curve := range []cubic{cubicOf(at(0, 0), at(half, 0), at(c.sum-half, 0), at(0, 0)), cubicOf(at(0, 0), at(0, c.sum-half), at(0, half), at(0, 0))} {
			got, code := impl.QuadsOfCubic(curve, m)
			check(t, show("code", curve), code, c.code)
			want, due := wantedQuads(curve, m)
			check(t, show("QuadsOfCubic", curve), show(got, code), show(want, due))
		}
	}
	// Exactly between m and m + 1, and between -m - 1 and -m.
	for _, c := range []cubic{cubicOf(at(0, 0), at(m, 0), at(87382, 0), at(0, 0)), cubicOf(at(2, 0), at(m, 0), at(87382, 0), at(2, 0)), cubicOf(at(0, 0), at(0, -m), at(0, -87382), at(0, 0)), cubicOf(at(0, 2), at(0, -m), at(0, -87382), at(0, 2))} {
		got, code := impl.QuadsOfCubic(c, m)
		want, due := wantedQuads(c, m)
		check(t, show("QuadsOfCubic", c), show(got, code), show(want, due))
	}
	// Only the first, only the last, and only an inner one of several is not valid.
	for _, c := range []cubic{cubicOf(at(m, 0), at(m, m), at(0, m), at(0, m)), cubicOf(at(-m, m), at(-m/2, m), at(m, m/2), at(m, -m)), cubicOf(at(m-9, 0), at(m, 99), at(m, 9999), at(0, 99999)), cubicOf(at(-m, -m), at(m, m), at(m, m), at(-m, -m))} {
		for _, curve := range []cubic{c, impl.ReverseCubic(c)} {
			for _, tolerance := range []int64{1, 100, 1000, 10000, m} {
				got, code := impl.QuadsOfCubic(curve, tolerance)
				want, due := wantedQuads(curve, tolerance)
				check(t, show("QuadsOfCubic", curve, tolerance), show(got, code), show(want, due))
			}
		}
	}
}

// checkQuadsNear holds every point of a cubic to be near the point of a quadratic for the same part of the way.
func checkQuadsNear(t *testing.T, c cubic, tolerance int64) int {
	t.Helper()
	quads, code := impl.QuadsOfCubic(c, tolerance)
	if code != impl.OK {
		return 0
	}
	limit := ratio((tolerance+2)*(tolerance+2), 1)
	for k, q := range quads {
		for _, part := range []int64{0, 4, 10, 15, 19} {
			p := bernstein(ratio(19*int64(k)+part, 19*int64(len(quads))), controlsOf(c)...)
			near := bernstein(ratio(part, 19), quadControls(q)...)
			check(t, show("near the quadratic", c, tolerance, k, part), p.distSq(near).Cmp(limit) <= 0, true)
		}
		if k > 0 {
			check(t, show("begins where the one before it ends", c, tolerance, k), q.A, quads[k-1].C)
		}
	}
	check(t, show("begin and end", c), show(quads[0].A, quads[len(quads)-1].C), show(c.A, c.D))
	return len(quads)
}

// TestQuadsNear is the first half of promise 11: every point of a cubic is within the tolerance plus 2 of a quadratic.
func TestQuadsNear(t *testing.T) {
	random := fixedRandom()
	found := map[int]int{}
	for _, c := range manyCubics(500) {
		found[checkQuadsNear(t, c, 1+random.Int63n(int64(1)<<random.Intn(15)))]++
	}
	for range 500 {
		// The third difference is just as great as the number of quadratics allows, or a little less, and has one direction.
		tolerance, n := 1+random.Int63n(int64(1)<<random.Intn(10)), int64(1)<<random.Intn(5)
		third := 20*tolerance*n*n*n - random.Int63n(3)
		c := cubicOf(at(third/8, 0), at(-third/8, 0), at(third/8, 0), at(third/8-(third-third/8*7), 0))
		if random.Intn(2) == 0 {
			c = cubicOf(at(0, c.D.X), at(7, c.C.X), at(14, c.B.X), at(21, c.A.X))
		}
		if impl.ValidCubic(c) {
			found[checkQuadsNear(t, c, tolerance)]++
		}
	}
	for _, count := range []int{1, 2, 4, 8, 16, 32} {
		if found[count] < 20 {
			t.Errorf("too few lists of a length: %v", found)
		}
	}
}

// wantedOutline reads a text of an outline by the rules of the document.
func wantedOutline(s string) (outline, bool) {
	var o outline
	for s != "" {
		line, rest, ended := strings.Cut(s, "\n")
		if !ended {
			return outline{}, false
		}
		var l loop
		for _, word := range strings.Split(line, " ") {
			place, off := strings.CutPrefix(word, "~")
			p, ok := wantedPt(place)
			if !ok {
				return outline{}, false
			}
			l.Knots = append(l.Knots, impl.Knot{At: p, On: !off})
		}
		o.Loops, s = append(o.Loops, l), rest
	}
	return o, outlineIsValid(o)
}

// loopIsValid tells what the document says, for loops of any kind.
func loopIsValid(l loop) bool {
	for _, k := range l.Knots {
		if max(k.At.X, k.At.Y) > 262144 || min(k.At.X, k.At.Y) < -262144 {
			return false
		}
	}
	return 1 <= len(l.Knots) && len(l.Knots) <= 60 && l.Knots[0].On
}

func outlineIsValid(o outline) bool {
	return len(o.Loops) <= 12 && !slices.ContainsFunc(o.Loops, func(l loop) bool { return !loopIsValid(l) })
}

// outlineOf returns the outline with some lines, which may also be one that is not valid.
func outlineOf(lines ...string) outline {
	var o outline
	for _, line := range lines {
		var l loop
		for _, word := range strings.Fields(line) {
			place, off := strings.CutPrefix(word, "~")
			p, ok := wantedPt(place)
			if !ok {
				panic(line)
			}
			l.Knots = append(l.Knots, impl.Knot{At: p, On: !off})
		}
		o.Loops = append(o.Loops, l)
	}
	return o
}

func loopOf(line string) loop { return outlineOf(line).Loops[0] }

// repeated returns a line that begins with some words and goes on with as many more as are missing.
func repeated(first, more string, count int) string {
	return first + strings.Repeat(" "+more, count-len(strings.Fields(first)))
}

// goodLines returns the texts of valid loops.
func goodLines() []string {
	return []string{
		"0,0", "0,0 0,0", "0,0 4,0 4,4", "0,0 ~8,0 ~8,8", "0,0 ~8,0", "5,5 ~5,5", "0,0 ~8,0 8,8", "0,0 8,0 ~8,8", "0,0 ~1,0 ~1,1 ~2,2 ~2,3", "0,0 ~8,0 8,8 ~0,8", "0,0 3,0 ~7,0 ~8,1 8,4 ~8,8 0,8 0,1",
		"0,0 ~-1,0 ~0,0", "0,0 ~1,1 ~1,1 2,2", "-3,-3 -3,-2", "7,7 7,7 ~7,7 ~7,7", "262144,-262144 ~-262144,262144 ~262144,262144 -262144,-262144 ~262144,-262143",
		repeated("0,0", "1,1", 60), repeated("0,0", "~1,3", 60), repeated("3,4 ~1,1 ~1,2 5,5", "~8,8", 60),
	}
}

// badLoops returns loops that are not valid, for each reason.
func badLoops() []loop {
	list := []loop{{}, {Knots: []impl.Knot{}}, loopOf("~0,0"), loopOf("~0,0 1,1"), loopOf("~0,0 ~1,1"), loopOf(repeated("0,0", "1,1", 61)), loopOf(repeated("0,0", "~1,1", 61)), loopOf(repeated("0,0", "~1,1", 1000)), {Knots: make([]impl.Knot, 3)}}
	for _, bad := range badPts() {
		for i := range 4 {
			l := loopOf("0,0 ~8,0 8,8 ~0,8")
			l.Knots[i].At = bad
			list = append(list, l)
		}
	}
	return list
}

func badOutlines() []outline {
	list := []outline{outlineOf(slices.Repeat([]string{"0,0"}, 13)...), {Loops: make([]loop, 1)}, {Loops: make([]loop, 12)}}
	for _, bad := range badLoops() {
		list = append(list, outline{Loops: []loop{bad}}, outline{Loops: []loop{loopOf("0,0"), loopOf("1,1"), bad}}, outline{Loops: []loop{bad, loopOf("0,0 ~1,1")}})
	}
	return list
}

func goodOutlines() []outline {
	list := []outline{{}, outlineOf(goodLines()[:12]...), outlineOf(slices.Repeat([]string{"0,0"}, 12)...), outlineOf(goodLines()[7:]...)}
	for _, line := range goodLines() {
		list = append(list, outlineOf(line))
	}
	return list
}

// randomLoop returns a valid loop, often with equal knots and with coordinates of which the sum is odd.
func randomLoop(random *rand.Rand) loop {
	limit := int64(1) << random.Intn(19)
	if random.Intn(2) == 0 {
		limit = 2
	}
	l := loop{Knots: []impl.Knot{{At: placeIn(random, limit), On: true}}}
	count, share := random.Intn(12), random.Intn(5)
	if random.Intn(10) == 0 {
		count = 48 + random.Intn(12)
	}
	for range count {
		l.Knots = append(l.Knots, impl.Knot{At: placeIn(random, limit), On: random.Intn(4) < share})
	}
	return l
}

func randomOutline(random *rand.Rand) outline {
	var o outline
	for range random.Intn(6) {
		o.Loops = append(o.Loops, randomLoop(random))
	}
	return o
}

func manyOutlines(count int) []outline {
	random, list := fixedRandom(), goodOutlines()
	for range count {
		list = append(list, randomOutline(random))
	}
	return list
}

func TestValidLoopAndOutline(t *testing.T) {
	for _, o := range manyOutlines(500) {
		check(t, show("ValidOutline", o), impl.ValidOutline(o), true)
		for _, l := range o.Loops {
			check(t, show("ValidLoop", l), impl.ValidLoop(l), true)
		}
	}
	for _, l := range badLoops() {
		check(t, show("ValidLoop", l), impl.ValidLoop(l), false)
	}
	for _, o := range badOutlines() {
		check(t, show("ValidOutline", o), impl.ValidOutline(o), false)
	}
}

func TestSameOutline(t *testing.T) {
	list := []outline{{}, outlineOf("0,0"), outlineOf("0,0", "0,0"), outlineOf("0,0 0,0"), outlineOf("1,0"), outlineOf("0,1"), outlineOf("~0,0"), outlineOf("0,0 1,1"), outlineOf("0,0 ~1,1"), outlineOf("0,0", "1,1"), outlineOf("1,1", "0,0"), outlineOf("0,0", "~1,1"), outlineOf("0,0 1,1 2,2"), outlineOf("0,0 1,2 2,2"), outlineOf(""), outlineOf("", ""), outlineOf("0,0", ""), outlineOf("", "0,0")}
	for i, a := range list {
		for k := range list {
			check(t, show("SameOutline", a, list[k]), impl.SameOutline(a, copyOf(list[k])), i == k)
		}
	}
	check(t, "no loops", impl.SameOutline(outline{Loops: []loop{}}, outline{}), true)
	check(t, "no knots", impl.SameOutline(outline{Loops: []loop{{Knots: []impl.Knot{}}}}, outlineOf("")), true)
	for _, bad := range badOutlines() {
		check(t, show("SameOutline", bad), impl.SameOutline(bad, copyOf(bad)), true)
	}
}

// copyOf returns an equal outline in other memory.
func copyOf(o outline) outline {
	var other outline
	for _, l := range o.Loops {
		other.Loops = append(other.Loops, loop{Knots: slices.Clone(l.Knots)})
	}
	return other
}

// segment is a quadratic and whether it stands for a straight segment.
type segment struct {
	quad
	straight bool
}

func middleOf(p, q pt) pt { return at(roundOf(ratio(p.X+q.X, 2)), roundOf(ratio(p.Y+q.Y, 2))) }

// wantedSegments returns the segments of a loop to which all implied knots have been added.
func wantedSegments(l loop) []segment {
	var full []impl.Knot
	for i, k := range l.Knots {
		next := l.Knots[(i+1)%len(l.Knots)]
		full = append(full, k)
		if !k.On && !next.On {
			full = append(full, impl.Knot{At: middleOf(k.At, next.At), On: true})
		}
	}
	var list []segment
	for i, k := range full {
		next, last := full[(i+1)%len(full)], full[(i+2)%len(full)]
		switch {
		case k.On && next.On:
			list = append(list, segment{quadOf(k.At, middleOf(k.At, next.At), next.At), true})
		case k.On:
			list = append(list, segment{quadOf(k.At, next.At, last.At), false})
		}
	}
	return list
}

func wantedQuadsOfLoop(l loop) []quad {
	var list []quad
	for _, s := range wantedSegments(l) {
		list = append(list, s.quad)
	}
	return list
}

func TestQuadsOfLoop(t *testing.T) {
	cases := []struct {
		line string
		want []quad
	}{
		{"0,0 ~8,0 ~8,8", []quad{quadOf(at(0, 0), at(8, 0), at(8, 4)), quadOf(at(8, 4), at(8, 8), at(0, 0))}},
		{"0,0 4,0 4,4", []quad{quadOf(at(0, 0), at(2, 0), at(4, 0)), quadOf(at(4, 0), at(4, 2), at(4, 4)), quadOf(at(4, 4), at(2, 2), at(0, 0))}},
		{"3,-5", []quad{quadOf(at(3, -5), at(3, -5), at(3, -5))}},
		{"3,-5 3,-5", []quad{quadOf(at(3, -5), at(3, -5), at(3, -5)), quadOf(at(3, -5), at(3, -5), at(3, -5))}},
		{"0,0 ~8,1", []quad{quadOf(at(0, 0), at(8, 1), at(0, 0))}},
		{"0,0 ~0,0", []quad{quadOf(at(0, 0), at(0, 0), at(0, 0))}},
		{"0,0 3,-3", []quad{quadOf(at(0, 0), at(2, -1), at(3, -3)), quadOf(at(3, -3), at(2, -1), at(0, 0))}},
		{"0,0 ~8,0 8,8", []quad{quadOf(at(0, 0), at(8, 0), at(8, 8)), quadOf(at(8, 8), at(4, 4), at(0, 0))}},
		{"0,0 8,0 ~8,8", []quad{quadOf(at(0, 0), at(4, 0), at(8, 0)), quadOf(at(8, 0), at(8, 8), at(0, 0))}},
		{"0,0 ~1,-1 ~2,-2 ~4,-3", []quad{quadOf(at(0, 0), at(1, -1), at(2, -1)), quadOf(at(2, -1), at(2, -2), at(3, -2)), quadOf(at(3, -2), at(4, -3), at(0, 0))}},
		{"0,0 ~5,5 ~5,5", []quad{quadOf(at(0, 0), at(5, 5), at(5, 5)), quadOf(at(5, 5), at(5, 5), at(0, 0))}},
		{"9,9 ~1,1 ~3,3 5,5 6,7 ~7,7", []quad{quadOf(at(9, 9), at(1, 1), at(2, 2)), quadOf(at(2, 2), at(3, 3), at(5, 5)), quadOf(at(5, 5), at(6, 6), at(6, 7)), quadOf(at(6, 7), at(7, 7), at(9, 9))}},
	}
	for _, c := range cases {
		got, code := impl.QuadsOfLoop(loopOf(c.line))
		check(t, "QuadsOfLoop "+c.line, show(got, code), show(c.want, impl.OK))
	}
	for _, o := range manyOutlines(1000) {
		for _, l := range o.Loops {
			got, code := impl.QuadsOfLoop(l)
			check(t, show("QuadsOfLoop", l), show(got, code), show(wantedQuadsOfLoop(l), impl.OK))
			for i, q := range got {
				check(t, show("ends where the next one begins", l, i), q.C, got[(i+1)%len(got)].A)
			}
		}
	}
	for _, bad := range badLoops() {
		got, code := impl.QuadsOfLoop(bad)
		check(t, show("QuadsOfLoop", bad), show(got, code), show([]quad{}, impl.ErrInvalid))
	}
}

// wantedRegion returns the region of an outline by the words of the document.
func wantedRegion(o outline, tolerance int64) (region, int64) {
	var r region
	edges := 0
	for _, l := range o.Loops {
		var list []pt
		for _, s := range wantedSegments(l) {
			if s.straight {
				list = append(list, s.A)
				continue
			}
			path, code := wantedPath(s.quad, tolerance)
			if code != impl.OK {
				return region{}, code
			}
			list = append(list, path[:len(path)-1]...)
		}
		for i, p := range list {
			if p != list[(i+1)%len(list)] {
				edges++
			}
		}
		if len(list) > 400 {
			return region{}, impl.ErrFull
		}
		r.Rings = append(r.Rings, impl.Ring{Points: list})
	}
	if edges > 400 {
		return region{}, impl.ErrFull
	}
	return r, impl.OK
}

func TestFlattenOutline(t *testing.T) {
	ring := func(list ...pt) impl.Ring { return impl.Ring{Points: list} }
	cases := []struct {
		o         outline
		tolerance int64
		want      []impl.Ring
		code      int64
	}{
		{outlineOf("0,0 ~8,0 ~8,8", "0,0 4,0 4,4"), 100, []impl.Ring{ring(at(0, 0), at(8, 4)), ring(at(0, 0), at(4, 0), at(4, 4))}, impl.OK},
		{outlineOf("0,0 ~8,0 8,8"), 1, []impl.Ring{ring(at(0, 0), at(6, 2), at(8, 8))}, impl.OK}, {outlineOf("0,0 8,8 ~8,0"), 1, []impl.Ring{ring(at(0, 0), at(8, 8), at(6, 2))}, impl.OK},
		{outlineOf("7,7"), 1, []impl.Ring{ring(at(7, 7))}, impl.OK}, {outlineOf("7,7 7,7"), 1, []impl.Ring{ring(at(7, 7), at(7, 7))}, impl.OK}, {outlineOf("7,7 ~7,7 ~7,7"), 1, []impl.Ring{ring(at(7, 7), at(7, 7))}, impl.OK},
		{outlineOf("0,0 ~8,0"), 4, []impl.Ring{ring(at(0, 0))}, impl.OK}, {outlineOf("0,0 ~8,0"), 3, []impl.Ring{ring(at(0, 0), at(4, 0))}, impl.OK}, {outline{}, 1, nil, impl.OK},
		{outlineOf("0,0 3,0 3,3 0,3", "-262144,-262144 262144,-262144 262144,262144"), 1, []impl.Ring{ring(at(0, 0), at(3, 0), at(3, 3), at(0, 3)), ring(at(-262144, -262144), at(262144, -262144), at(262144, 262144))}, impl.OK},
		{outlineOf("0,0 ~262144,0"), 1, nil, impl.ErrFull}, {outlineOf("0,0", "0,0 1,1 ~9000,0"), 1, nil, impl.ErrFull}, {outlineOf("0,0 ~8192,0"), 1, nil, impl.OK}, {outlineOf("0,0 ~8193,0"), 1, nil, impl.ErrFull},
	}
	for _, c := range cases {
		got, code := impl.FlattenOutline(c.o, c.tolerance)
		check(t, show("code of FlattenOutline", c.o, c.tolerance), code, c.code)
		if c.want != nil || len(c.o.Loops) == 0 {
			check(t, show("FlattenOutline", c.o, c.tolerance), show(got), show(region{Rings: c.want}))
		}
	}
	random := fixedRandom()
	found := map[int64]int{}
	for _, o := range manyOutlines(2000) {
		tolerance := 1 + random.Int63n(int64(1)<<random.Intn(19))
		got, code := impl.FlattenOutline(o, tolerance)
		want, due := wantedRegion(o, tolerance)
		check(t, show("FlattenOutline", o, tolerance), show(got, code), show(want, due))
		found[due]++
	}
	if found[impl.OK] < 500 || found[impl.ErrFull] < 100 {
		t.Errorf("the outlines of this test do not reach all codes: %v", found)
	}
}

// TestFlattenOutlineLimits is about the number of points and edges. A curve with a second difference of 16384 has 64 edges.
func TestFlattenOutlineLimits(t *testing.T) {
	bows := func(count int) string { return strings.Repeat("0,0 ~8192,0 ", count) }
	zigzag := func(count int) string { return strings.TrimSpace(strings.Repeat("0,0 0,9 ", count)) }
	all := bows(6) + zigzag(8)
	cases := []struct {
		what          string
		o             outline
		points, edges int
		code          int64
	}{
		{"as many points as may be", outlineOf(all), 400, 400, impl.OK},
		{"one more", outlineOf(all + " 5,5"), 401, 401, impl.ErrFull},
		{"as many points, with equal ones", outlineOf(bows(6) + repeated("0,0", "0,0", 16)), 400, 384, impl.OK},
		{"one more equal one, with fewer edges", outlineOf(bows(6) + repeated("0,0", "0,0", 17)), 401, 384, impl.ErrFull},
		{"edges of two rings", outlineOf(bows(6)+zigzag(7), "0,0 1,1"), 400, 400, impl.OK},
		{"a ring of one point has no edge", outlineOf(all, "1,1"), 401, 400, impl.OK},
		{"a ring of equal points has no edge", outlineOf(all, repeated("1,1", "1,1", 60)), 460, 400, impl.OK},
		{"rings without edges before others", outlineOf("1,1", "2,2 2,2", all), 403, 400, impl.OK},
		{"too many edges of two rings", outlineOf(all, "0,0 1,1"), 402, 402, impl.ErrFull},
		{"one edge too many", outlineOf(bows(6)+zigzag(7), "0,0 1,1 2,2"), 401, 401, impl.ErrFull},
		{"one edge too many, first the small ring", outlineOf("0,0 1,1 2,2", bows(6)+zigzag(7)), 401, 401, impl.ErrFull},
		{"many rings", outlineOf(slices.Repeat([]string{repeated("0,0", "1,1 0,0", 17) + " 3,3"}, 12)...), 408, 408, impl.ErrFull},
	}
	for _, c := range cases {
		points, edges := 0, 0
		for _, l := range c.o.Loops {
			for _, s := range wantedSegments(l) {
				path, _ := wantedPath(s.quad, 1)
				points += len(path) - 1
				for i := range len(path) - 1 {
					if path[i] != path[i+1] {
						edges++
					}
				}
			}
		}
		got, code := impl.FlattenOutline(c.o, 1)
		check(t, c.what+": points, edges, code", show(points, edges, code), show(c.points, c.edges, c.code))
		want, due := wantedRegion(c.o, 1)
		check(t, c.what, show(got, code), show(want, due))
	}
}

func TestFlattenOutlineInvalid(t *testing.T) {
	for _, tolerance := range append(badTolerances(), 1, 77, impl.MaxCoord) {
		for _, bad := range badOutlines() {
			got, code := impl.FlattenOutline(bad, tolerance)
			check(t, show("FlattenOutline", bad, tolerance), show(got, code), show(region{}, impl.ErrInvalid))
		}
	}
	for _, tolerance := range badTolerances() {
		for _, o := range append(goodOutlines(), outlineOf("0,0 ~262144,0")) {
			got, code := impl.FlattenOutline(o, tolerance)
			check(t, show("FlattenOutline", o, tolerance), show(got, code), show(region{}, impl.ErrRange))
		}
	}
}

// cubicsOf returns the cubics with the texts of lines.
func cubicsOf(lines ...string) []cubic {
	var list []cubic
	for _, line := range lines {
		c, ok := wantedCubic(line)
		if !ok {
			panic(line)
		}
		list = append(list, c)
	}
	return list
}

// wantedLoop returns the loop of cubics by the words of the document.
func wantedLoop(list []cubic, tolerance int64) (loop, int64) {
	var l loop
	for i, c := range list {
		if !impl.ValidCubic(c) || c.D != list[(i+1)%len(list)].A {
			return loop{}, impl.ErrInvalid
		}
	}
	if len(list) == 0 {
		return loop{}, impl.ErrInvalid
	}
	if tolerance < 1 || tolerance > impl.MaxCoord {
		return loop{}, impl.ErrRange
	}
	for _, c := range list {
		if c.A == c.B && c.C == c.D {
			l.Knots = append(l.Knots, impl.Knot{At: c.A, On: true})
			continue
		}
		quads, code := wantedQuads(c, tolerance)
		if code != impl.OK {
			return loop{}, code
		}
		for _, q := range quads {
			l.Knots = append(l.Knots, impl.Knot{At: q.A, On: true}, impl.Knot{At: q.B})
		}
	}
	if len(l.Knots) > 60 {
		return loop{}, impl.ErrFull
	}
	return l, impl.OK
}

func TestLoopOfCubics(t *testing.T) {
	there, back := "0,0 0,0 9,0 9,0", "9,0 9,0 0,0 0,0"
	arch, up := "0,0 0,9 9,9 9,0", "0,0 0,30 0,-30 0,0"
	lines := func(count int) []string { return slices.Repeat([]string{there, back}, count) }
	arches := func(count int) []string { return slices.Repeat([]string{arch, back}, count) }
	cases := []struct {
		what      string
		lines     []string
		tolerance int64
		want      string
		code      int64
	}{
		{"straight", []string{there, back}, 1, "0,0 9,0", impl.OK}, {"example", []string{"0,0 0,8 8,8 8,0", "8,0 8,0 0,0 0,0"}, 1, "0,0 ~4,12 8,0", impl.OK}, {"a point", []string{"3,4 3,4 3,4 3,4"}, 1, "3,4", impl.OK},
		{"two quadratics", []string{up}, 4, "0,0 ~0,17 0,0 ~0,-17", impl.OK}, {"straight with other controls", []string{"0,0 1,0 2,0 3,0", "3,0 3,0 0,0 0,0"}, 1, "0,0 ~2,0 3,0", impl.OK},
		{"only B is A", []string{"0,0 0,0 6,0 9,0", "9,0 9,0 0,0 0,0"}, 1, "0,0 ~2,0 9,0", impl.OK}, {"only C is D", []string{"0,0 3,0 9,0 9,0", "9,0 9,0 0,0 0,0"}, 1, "0,0 ~7,0 9,0", impl.OK}, {"B is D and C is A", []string{"0,0 9,0 0,0 9,0", back}, 2, "0,0 ~5,0 9,0", impl.OK},
		{"far and straight", []string{"0,0 0,0 262144,-262144 262144,-262144", "262144,-262144 262144,-262144 0,0 0,0"}, 1, "0,0 262144,-262144", impl.OK},
		{"a gap", []string{there, "9,1 9,1 0,0 0,0"}, 1, "", impl.ErrInvalid}, {"a gap at the end", []string{there, "9,0 9,0 0,0 0,1"}, 1, "", impl.ErrInvalid}, {"not closed", []string{there}, 1, "", impl.ErrInvalid}, {"a gap before a wrong tolerance", []string{there}, 0, "", impl.ErrInvalid},
		{"a wrong tolerance before too many knots", lines(31), 0, "", impl.ErrRange}, {"a B that is not valid", []string{"0,0 0,262144 0,262144 0,0"}, 1, "", impl.ErrFull}, {"a later B that is not valid", []string{there, back, "0,0 0,262144 0,262144 0,0"}, 1, "", impl.ErrFull},
		{"a gap behind a B that is not valid", []string{"0,0 0,262144 0,262144 0,0", there}, 1, "", impl.ErrInvalid}, {"a wrong tolerance and a B that is not valid", []string{"0,0 0,262144 0,262144 0,0"}, impl.MaxCoord + 1, "", impl.ErrRange},
		{"as many knots as may be", lines(30), 1, strings.TrimSpace(strings.Repeat("0,0 9,0 ", 30)), impl.OK}, {"one more", append(lines(30), "0,0 0,0 0,0 0,0"), 1, "", impl.ErrFull}, {"as many knots of curves", arches(20), 1, strings.TrimSpace(strings.Repeat("0,0 ~5,14 9,0 ", 20)), impl.OK},
		{"one more of curves", append(arches(20), "0,0 0,0 0,0 0,0"), 1, "", impl.ErrFull}, {"two more of curves", append(arches(20), "0,0 8,0 0,8 0,0"), 1, "", impl.ErrFull}, {"too many quadratics", []string{"0,0 99999,0 -99999,0 0,0"}, 1, "", impl.ErrFull}, {"no cubics", nil, 1, "", impl.ErrInvalid}, {"no cubics, a wrong tolerance", nil, 0, "", impl.ErrInvalid},
	}
	for _, c := range cases {
		got, code := impl.LoopOfCubics(cubicsOf(c.lines...), c.tolerance)
		check(t, c.what, show(got, code), show(loopOf(c.want), c.code))
		want, due := wantedLoop(cubicsOf(c.lines...), c.tolerance)
		check(t, c.what+" by the words", show(want, due), show(loopOf(c.want), c.code))
	}
	for _, bad := range badCubics() {
		for _, list := range [][]cubic{{bad}, {{}, bad, {}}, {bad, impl.ReverseCubic(bad)}, {cubicOf(bad.D, bad.D, bad.A, bad.A), bad}} {
			got, code := impl.LoopOfCubics(list, 1)
			check(t, show("LoopOfCubics", list), show(got, code), show(loop{}, impl.ErrInvalid))
		}
	}
	for _, bad := range badPts() {
		// These are straight, so that nothing else looks at their points.
		point, there, back := cubicOf(bad, bad, bad, bad), cubicOf(at(0, 0), at(0, 0), bad, bad), cubicOf(bad, bad, at(0, 0), at(0, 0))
		full := slices.Repeat([]cubic{{}}, 61)
		for _, list := range [][]cubic{{point}, {point, point}, {there, back}, {back, there}, append(full, there, back), {cubicOf(at(0, 0), at(0, 262144), at(0, 262144), at(0, 0)), there, back}} {
			for _, tolerance := range []int64{1, 0} {
				got, code := impl.LoopOfCubics(list, tolerance)
				check(t, show("LoopOfCubics", list, tolerance), show(got, code), show(loop{}, impl.ErrInvalid))
			}
		}
	}
	got, code := impl.LoopOfCubics(make([]cubic, 300000), 1)
	check(t, "a long path", show(got, code), show(loop{}, impl.ErrFull))
}

// randomPath returns a closed path of cubics, of which some are straight.
func randomPath(random *rand.Rand) []cubic {
	limit := int64(1) << random.Intn(19)
	knots, list := make([]pt, 1+random.Intn(9)), []cubic(nil)
	for i := range knots {
		knots[i] = placeIn(random, limit)
	}
	for i, a := range knots {
		d := knots[(i+1)%len(knots)]
		c := cubicOf(a, placeIn(random, limit), placeIn(random, limit), d)
		if random.Intn(3) == 0 {
			c.B = a
		}
		if random.Intn(3) == 0 {
			c.C = d
		}
		list = append(list, c)
	}
	return list
}

func TestLoopOfCubicsRandom(t *testing.T) {
	t.Parallel()
	random := fixedRandom()
	found := map[int64]int{}
	for range 2000 {
		list := randomPath(random)
		tolerance := 1 + random.Int63n(int64(1)<<random.Intn(19))
		switch random.Intn(12) {
		case 0:
			list[random.Intn(len(list))].A.X++
		case 1:
			list[random.Intn(len(list))].D.Y--
		case 2:
			tolerance = 0
		}
		got, code := impl.LoopOfCubics(list, tolerance)
		want, due := wantedLoop(list, tolerance)
		check(t, show("LoopOfCubics", list, tolerance), show(got, code), show(want, due))
		found[due]++
		if due == impl.OK {
			check(t, show("loop is valid", list), impl.ValidLoop(got), true)
			checkQuadsOfPath(t, list, tolerance, got)
		}
	}
	for _, code := range []int64{impl.OK, impl.ErrInvalid, impl.ErrRange, impl.ErrFull} {
		if found[code] < 50 {
			t.Errorf("the paths of this test do not reach all codes: %v", found)
		}
	}
}

// checkQuadsOfPath holds the segments of the loop of a path to be the quadratics of its cubics.
func checkQuadsOfPath(t *testing.T, list []cubic, tolerance int64, l loop) {
	t.Helper()
	var want []quad
	for _, c := range list {
		if c.A == c.B && c.C == c.D {
			want = append(want, quadOf(c.A, middleOf(c.A, c.D), c.D))
			continue
		}
		quads, _ := impl.QuadsOfCubic(c, tolerance)
		want = append(want, quads...)
	}
	got, _ := impl.QuadsOfLoop(l)
	check(t, show("segments of the loop of ", list), show(got), show(want))
}

// TestReverseOutline is the second half of promise 11: outlines are reversed.
func TestReverseOutline(t *testing.T) {
	cases := [][2]outline{
		{outlineOf("0,0 ~8,0 ~8,8", "0,0 4,0 4,4"), outlineOf("0,0 ~8,8 ~8,0", "0,0 4,4 4,0")}, {{}, {}}, {outlineOf("1,1"), outlineOf("1,1")}, {outlineOf("1,1 ~2,2"), outlineOf("1,1 ~2,2")},
		{outlineOf("1,1 ~2,2 3,3 ~4,4 ~5,5"), outlineOf("1,1 ~5,5 ~4,4 3,3 ~2,2")}, {outlineOf("1,1 2,2 3,3 ~4,4", "6,6 7,7 ~8,8"), outlineOf("1,1 ~4,4 3,3 2,2", "6,6 ~8,8 7,7")},
	}
	for _, c := range cases {
		got, code := impl.ReverseOutline(c[0])
		check(t, show("ReverseOutline", c[0]), show(got, code), show(c[1], impl.OK))
	}
	for _, o := range manyOutlines(1000) {
		reverse, one := impl.ReverseOutline(o)
		back, two := impl.ReverseOutline(reverse)
		check(t, show("twice", o), show(back, one, two, impl.ValidOutline(reverse)), show(o, impl.OK, impl.OK, true))
		for i, l := range o.Loops {
			quads, _ := impl.QuadsOfLoop(l)
			var want []quad
			for _, q := range slices.Backward(quads) {
				want = append(want, quadOf(q.C, q.B, q.A))
			}
			got, code := impl.QuadsOfLoop(reverse.Loops[i])
			check(t, show("segments of the reverse of ", l), show(got, code), show(want, impl.OK))
		}
	}
	for _, bad := range badOutlines() {
		got, code := impl.ReverseOutline(bad)
		check(t, show("ReverseOutline", bad), show(got, code), show(outline{}, impl.ErrInvalid))
	}
}

func checkReadOutline(t *testing.T, s string) bool {
	t.Helper()
	got, ok := impl.ReadOutline(s)
	want, wanted := wantedOutline(s)
	if !wanted {
		want = outline{}
	}
	check(t, fmt.Sprintf("ReadOutline(%.80q)", s), show(got, ok), show(want, wanted))
	if ok {
		check(t, fmt.Sprintf("OutlineText of %.80q", s), impl.OutlineText(got), s)
	}
	return ok
}

// TestOutlineTexts is the last part of promise 11: outlines are read back.
func TestOutlineTexts(t *testing.T) {
	check(t, "text", impl.OutlineText(outlineOf("0,0 ~8,0 ~8,-8", "-1,0 4,0 4,4", "5,5")), "0,0 ~8,0 ~8,-8\n-1,0 4,0 4,4\n5,5\n")
	check(t, "text of nothing", impl.OutlineText(outline{}), "")
	check(t, "nothing is read", checkReadOutline(t, ""), true)
	for _, line := range goodLines() {
		check(t, "text of "+line, impl.OutlineText(outlineOf(line)), line+"\n")
	}
	for _, o := range manyOutlines(1000) {
		got, ok := impl.ReadOutline(impl.OutlineText(o))
		check(t, show("ReadOutline of the text of ", o), show(got, ok), show(o, true))
		check(t, show("read by the rules", o), checkReadOutline(t, impl.OutlineText(o)), true)
	}
	for _, bad := range badOutlines() {
		check(t, show("OutlineText", bad), impl.OutlineText(bad), "")
	}
}

func TestReadOutlineOthers(t *testing.T) {
	for _, s := range append(oddTexts()[1:], "0,0", "~0,0\n", "\n", "\n\n", "0,0  1,1\n", "0,0 ~~1,1\n", "0,0\n\n", "\n0,0\n", "0,0\n1,1", "0,0 \n", " 0,0\n", "0,0\r\n", "0,0\t1,1\n", "0,0 ~\n", "0,0 ~ 1,1\n", "0,0 1,1~\n", "0,0~1,1\n",
		"0,0 1,~1\n", "0,0 -~1,1\n", "~0,0 1,1\n", "0,0\n~1,1\n", "0,0 x\n", "x 0,0\n", "0,0 1,1 x 2,2\n", "x\n", "0,0\nx\n", "0,0 1\n", "0,0 1,1,1\n", "0,0 01,1\n", "0,0 1,-0\n", "0,0 262145,0\n", "0,0 ~0,-262145\n", "0,0 +1,1\n", "0,0 ~+1,1\n", "0,0\x00\n", "0,0\n ", "0,0\n\x00", "0,0;1,1\n",
		repeated("0,0", "1,1", 61)+"\n", repeated("0,0", "~1,1", 61)+"\n", strings.Repeat("0,0\n", 13), strings.Repeat("0,0\n", 100000), strings.Repeat("\n", 100000), strings.Repeat("0,0 ", 100000)+"\n", strings.Repeat("0,0\n", 12)+"\n", strings.Repeat("0,0\n", 12)+"x\n", strings.Repeat("~", 100000)+"0,0\n") {
		check(t, fmt.Sprintf("is read: %.80q", s), checkReadOutline(t, s), false)
	}
	for _, s := range []string{"0,0\n", strings.Repeat("0,0\n", 12), repeated("0,0", "1,1", 60) + "\n", "0,0 ~1,1\n", "262144,-262144 ~-262144,262144\n"} {
		check(t, fmt.Sprintf("is read: %.80q", s), checkReadOutline(t, s), true)
	}
	read := 0
	for _, text := range []string{"0,0 ~8,0 ~12,-5\n0,0 4,10 4,4\n", "7,7\n-1,-1 ~0,0\n262144,0 ~0,-262144\n"} {
		for _, s := range edited(text, " -,0123~\n", "", "1,1", "~1,1", "x", "~", "\n", "5,5\n6,6", "262145,0") {
			if checkReadOutline(t, s) {
				read++
			}
		}
	}
	if read < 200 {
		t.Errorf("only %d texts are read", read)
	}
}

// outlineArguments are arguments of the functions of chapter 10, valid or not.
type outlineArguments struct {
	q                   quad
	c                   cubic
	list                []cubic
	o, other            outline
	k, level, tolerance int64
	text                string
}

// outlineResults are what these functions return.
type outlineResults struct {
	at                  pt
	path                []pt
	quads, segments     []quad
	region              region
	loop                loop
	reverse, read       outline
	text                string
	valid, whole, sames bool
	ok                  bool
	codes               []int64
}

func outlineResultsOf(a outlineArguments) outlineResults {
	var r outlineResults
	var l loop
	if len(a.o.Loops) > 0 {
		l = a.o.Loops[0]
	}
	r.codes = make([]int64, 7)
	r.at, r.codes[0] = impl.QuadAt(a.q, a.k, a.level)
	r.path, r.codes[1] = impl.FlattenQuad(a.q, a.tolerance)
	r.quads, r.codes[2] = impl.QuadsOfCubic(a.c, a.tolerance)
	r.segments, r.codes[3] = impl.QuadsOfLoop(l)
	r.region, r.codes[4] = impl.FlattenOutline(a.o, a.tolerance)
	r.loop, r.codes[5] = impl.LoopOfCubics(a.list, a.tolerance)
	r.reverse, r.codes[6] = impl.ReverseOutline(a.o)
	r.text, r.valid, r.whole, r.sames = impl.OutlineText(a.o), impl.ValidLoop(l), impl.ValidOutline(a.o), impl.SameOutline(a.o, a.other)
	r.read, r.ok = impl.ReadOutline(a.text)
	return r
}

// checkZero holds everything that comes with an error to be 0.
func (r outlineResults) checkZero(t *testing.T) {
	t.Helper()
	zero := []bool{r.at == pt{}, len(r.path) == 0, len(r.quads) == 0, len(r.segments) == 0, len(r.region.Rings) == 0, len(r.loop.Knots) == 0, len(r.reverse.Loops) == 0}
	for i, code := range r.codes {
		if code != impl.OK && !zero[i] {
			t.Errorf("result %d is not 0 though the code is %d: %+v", i, code, r)
		}
	}
	if !r.ok {
		check(t, "outline with false", show(r.read), show(outline{}))
	}
}

// overwriteResults sets all memory of the results, ring by ring and loop by loop, and holds the others to stay as they are.
func (r outlineResults) overwriteResults(t *testing.T) {
	t.Helper()
	for i, ring := range r.region.Rings {
		before := show(r.region.Rings[i+1:])
		overwrite(ring.Points, at(55, 55))
		check(t, "later rings", show(r.region.Rings[i+1:]), before)
	}
	for _, o := range []outline{r.reverse, r.read, {Loops: []loop{r.loop}}} {
		for i, l := range o.Loops {
			before := show(o.Loops[i+1:])
			overwrite(l.Knots, impl.Knot{At: at(55, 55)})
			check(t, "later loops", show(o.Loops[i+1:]), before)
		}
	}
	overwrite(r.path, at(55, 55))
	overwrite(r.quads, quad{A: at(55, 55)})
	overwrite(r.segments, quad{A: at(55, 55)})
}

// roomyOutline returns an equal outline, behind whose loops and knots there is room that is not empty.
func roomyOutline(o outline) outline {
	list := roomySlice(o.Loops, loopOf("77,77"))
	for i, l := range list {
		list[i].Knots = roomySlice(l.Knots, impl.Knot{At: at(77, 77), On: true})
	}
	return outline{Loops: list}
}

// outlineMemory shows all that an outline has and may have.
func outlineMemory(o outline) string {
	var all []any
	for _, l := range o.Loops {
		all = append(all, l.Knots[:cap(l.Knots)])
	}
	return show(o.Loops[:cap(o.Loops)], all)
}

// TestOutlinesTotal is promise 1 for chapter 10: all functions return for all arguments, twice alike, in new memory, and keep their arguments.
func TestOutlinesTotal(t *testing.T) {
	t.Parallel()
	random := fixedRandom()
	quads, cubics := append(badQuads(), goodQuads(40)...), append(badCubics(), manyCubics(40)...)
	outlines, numbers := append(badOutlines(), manyOutlines(100)...), extremeNumbers()
	texts := append(oddTexts(), "0,0 ~1,1\n2,2\n", "0,0\n", "0,0 ~1,1 ~2,2 3,3\n0,0 ~1,1 ~2,2 3,3\n", "0,0")
	for range 4000 {
		a := outlineArguments{q: pick(random, quads), c: pick(random, cubics), list: roomySlice(randomPath(random), cubic{A: at(77, 77)}), o: roomyOutline(pick(random, outlines)), other: roomyOutline(pick(random, outlines)), text: pick(random, texts)}
		a.k, a.level, a.tolerance = pick(random, numbers), pick(random, numbers), pick(random, numbers)
		if random.Intn(3) > 0 {
			a.k, a.level, a.tolerance = random.Int63n(5), random.Int63n(9)-1, random.Int63n(1000)
		}
		if random.Intn(9) == 0 {
			a.list[random.Intn(len(a.list))] = pick(random, cubics)
		}
		memory := func() string {
			return show(outlineMemory(a.o), outlineMemory(a.other), a.list[:cap(a.list)])
		}
		before := memory()
		first := outlineResultsOf(a)
		first.checkZero(t)
		shown := show(first)
		check(t, "arguments after all calls", memory(), before)
		first.overwriteResults(t)
		check(t, "arguments after results are overwritten", memory(), before)
		if shown != show(outlineResultsOf(a)) {
			t.Fatal("equal arguments have different results: ", a)
		}
	}
}
