package tests

import (
	"fmt"
	"math"
	"math/big"
	"math/rand"
	"regexp"
	"slices"
	"strings"
	"testing"

	"loop.example/g00883/impl"
)

type cubic = impl.Cubic

func cubicOf(list ...pt) cubic { return cubic{A: list[0], B: list[1], C: list[2], D: list[3]} }

func controlsOf(c cubic) []pt { return []pt{c.A, c.B, c.C, c.D} }

// withControl returns c with another control point.
func withControl(c cubic, i int, p pt) cubic {
	list := controlsOf(c)
	list[i] = p
	return cubicOf(list...)
}

// goodCubics returns valid curves: straight ones, curves that turn back or cross themselves, and those at the limits.
func goodCubics() []cubic {
	const m = impl.MaxCoord
	list := []cubic{
		{}, cubicOf(at(7, -7), at(7, -7), at(7, -7), at(7, -7)), cubicOf(at(0, 0), at(0, 8), at(8, 8), at(8, 0)),
		cubicOf(at(0, 0), at(1, 0), at(2, 0), at(3, 0)), cubicOf(at(0, 0), at(0, 0), at(9, 5), at(9, 5)), cubicOf(at(9, 0), at(0, 0), at(0, 0), at(9, 0)),
		cubicOf(at(0, 0), at(30, 0), at(-30, 0), at(1, 0)), cubicOf(at(0, 0), at(100, 100), at(0, 100), at(100, 0)), cubicOf(at(0, 0), at(200, 90), at(-100, 90), at(100, 0)),
		cubicOf(at(0, 0), at(3, 4), at(3, 4), at(0, 0)), cubicOf(at(0, 0), at(1, 0), at(0, 0), at(0, 1)), cubicOf(at(-1, -1), at(0, 0), at(0, 0), at(0, 0)),
		cubicOf(at(m, m), at(m, m), at(m, m), at(m, m)), cubicOf(at(-m, -m), at(-m, -m), at(-m, -m), at(-m, -m)), cubicOf(at(m, -m), at(-m, m), at(m, -m), at(-m, m)),
		cubicOf(at(-m, m), at(m, -m), at(-m, m), at(m, -m)), cubicOf(at(-m, -m), at(m, m), at(m, m), at(-m, -m)), cubicOf(at(-m, 0), at(-m, m), at(m, m), at(m, 0)),
	}
	for i := range 4 {
		for _, p := range cornerPts() {
			list = append(list, withControl(cubicOf(at(0, 0), at(1, 3), at(5, 2), at(-6, -7)), i, p))
		}
	}
	return list
}

// badCubics returns curves with each control point that is not valid.
func badCubics() []cubic {
	var list []cubic
	for i := range 4 {
		for _, bad := range badPts() {
			list = append(list, withControl(cubicOf(at(0, 0), at(1, 3), at(5, 2), at(-6, -7)), i, bad))
		}
	}
	return append(list, cubicOf(badPts()...))
}

// placeIn returns a point with coordinates up to a limit.
func placeIn(random *rand.Rand, limit int64) pt {
	return at(random.Int63n(2*limit+1)-limit, random.Int63n(2*limit+1)-limit)
}

// randomCubic returns a curve of any size, sometimes with equal control points.
func randomCubic(random *rand.Rand) cubic {
	limit := int64(1) << random.Intn(19)
	list := []pt{placeIn(random, limit), placeIn(random, limit), placeIn(random, limit), placeIn(random, limit)}
	if random.Intn(5) == 0 {
		list[random.Intn(4)] = list[random.Intn(4)]
	}
	return cubicOf(list...)
}

// manyCubics returns the valid curves of this file and random ones.
func manyCubics(count int) []cubic {
	random, list := fixedRandom(), goodCubics()
	for range count {
		list = append(list, randomCubic(random))
	}
	return list
}

// bernstein returns the point of the curve with some control points at a parameter, as the sum in the document.
func bernstein(t *big.Rat, controls ...pt) exactPt {
	degree := len(controls) - 1
	sum := exactPt{new(big.Rat), new(big.Rat)}
	rest := new(big.Rat).Sub(ratio(1, 1), t)
	for i, p := range controls {
		weight := new(big.Rat).SetInt(new(big.Int).Binomial(int64(degree), int64(i)))
		for range degree - i {
			weight.Mul(weight, rest)
		}
		for range i {
			weight.Mul(weight, t)
		}
		sum.x.Add(sum.x, new(big.Rat).Mul(weight, ratio(p.X, 1)))
		sum.y.Add(sum.y, new(big.Rat).Mul(weight, ratio(p.Y, 1)))
	}
	return sum
}

func (p exactPt) rounded() pt { return at(roundOf(p.x), roundOf(p.y)) }

// times returns the point with both coordinates multiplied.
func (p exactPt) times(n int64) exactPt {
	return exactPt{new(big.Rat).Mul(p.x, ratio(n, 1)), new(big.Rat).Mul(p.y, ratio(n, 1))}
}

func (p exactPt) equals(q exactPt) bool { return p.distSq(q).Sign() == 0 }

// isWithin reports whether p is at most a distance away from the segment between two points.
func (p exactPt) isWithin(distance int64, a, b pt) bool {
	t := ratio(0, 1)
	if a != b {
		ux, uy := ratio(b.X-a.X, 1), ratio(b.Y-a.Y, 1)
		x, y := new(big.Rat).Sub(p.x, ratio(a.X, 1)), new(big.Rat).Sub(p.y, ratio(a.Y, 1))
		t.Add(x.Mul(x, ux), y.Mul(y, uy))
		t.Quo(t, ratio((b.X-a.X)*(b.X-a.X)+(b.Y-a.Y)*(b.Y-a.Y), 1))
	}
	if t.Sign() < 0 {
		t = ratio(0, 1)
	}
	if t.Cmp(ratio(1, 1)) > 0 {
		t = ratio(1, 1)
	}
	return partWay(a, b, t).distSq(p).Cmp(ratio(distance*distance, 1)) <= 0
}

func TestCubicConstants(t *testing.T) { check(t, "MaxLevel", impl.MaxLevel, 6) }

func TestValidCubic(t *testing.T) {
	for _, c := range manyCubics(300) {
		check(t, show("ValidCubic", c), impl.ValidCubic(c), true)
	}
	for _, c := range badCubics() {
		check(t, show("ValidCubic", c), impl.ValidCubic(c), false)
	}
}

// badPlaces returns the numbers of parameters and levels that are not there.
func badPlaces() [][2]int64 {
	var list [][2]int64
	for level := range int64(impl.MaxLevel + 1) {
		for _, k := range []int64{-1, 1<<level + 1, math.MaxInt64, math.MinInt64} {
			list = append(list, [2]int64{k, level})
		}
	}
	for _, level := range []int64{-1, -6, -63, -64, 7, 8, 62, 63, 64, 65, 70, 128, math.MaxInt64, math.MinInt64} {
		for _, k := range []int64{0, 1, 64, -1, math.MaxInt64} {
			list = append(list, [2]int64{k, level})
		}
	}
	return list
}

func TestCubicAt(t *testing.T) {
	arch, down := cubicOf(at(0, 0), at(0, 8), at(8, 8), at(8, 0)), cubicOf(at(0, 0), at(0, 0), at(0, 0), at(4, -4))
	cases := []struct {
		c        cubic
		k, level int64
		want     pt
	}{
		{arch, 1, 1, at(4, 6)}, {arch, 0, 0, at(0, 0)}, {arch, 1, 0, at(8, 0)}, {arch, 2, 1, at(8, 0)}, {arch, 1, 2, at(1, 5)}, {arch, 3, 2, at(7, 5)}, {arch, 2, 2, at(4, 6)}, {arch, 32, 6, at(4, 6)}, {arch, 64, 6, at(8, 0)}, {arch, 0, 6, at(0, 0)},
		// Halves are rounded up: 4 / 8 is 1, and -4 / 8 is 0.
		{down, 1, 1, at(1, 0)}, {down, 3, 2, at(2, -2)},
		{cubicOf(at(impl.MaxCoord, -impl.MaxCoord), at(impl.MaxCoord, -impl.MaxCoord), at(impl.MaxCoord, -impl.MaxCoord), at(impl.MaxCoord, -impl.MaxCoord)), 21, 6, at(impl.MaxCoord, -impl.MaxCoord)},
	}
	for _, c := range cases {
		got, code := impl.CubicAt(c.c, c.k, c.level)
		check(t, show("CubicAt", c.c, c.k, c.level), show(got, code), show(c.want, impl.OK))
	}
	for _, place := range badPlaces() {
		for _, c := range []cubic{arch, {}, goodCubics()[14]} {
			got, code := impl.CubicAt(c, place[0], place[1])
			check(t, show("CubicAt", c, place), show(got, code), show(pt{}, impl.ErrRange))
		}
		for _, bad := range badCubics()[:9] {
			got, code := impl.CubicAt(bad, place[0], place[1])
			check(t, show("CubicAt", bad, place), show(got, code), show(pt{}, impl.ErrInvalid))
		}
	}
	for _, bad := range badCubics() {
		got, code := impl.CubicAt(bad, 0, 0)
		check(t, show("CubicAt", bad), show(got, code), show(pt{}, impl.ErrInvalid))
	}
}

func TestCubicAtExact(t *testing.T) {
	for i, c := range manyCubics(300) {
		for level := range int64(impl.MaxLevel + 1) {
			for k := range int64(1)<<level + 1 {
				if i%5 != 0 && (k+level)%7 != 0 {
					continue
				}
				got, code := impl.CubicAt(c, k, level)
				want := bernstein(ratio(k, 1<<level), controlsOf(c)...).rounded()
				check(t, show("CubicAt", c, k, level), show(got, code), show(want, impl.OK))
			}
		}
	}
}

func TestHalvesOf(t *testing.T) {
	one, two, code := impl.HalvesOf(cubicOf(at(0, 0), at(0, 8), at(8, 8), at(8, 0)))
	check(t, "HalvesOf", show(one, two, code), show(cubicOf(at(0, 0), at(0, 32), at(16, 48), at(32, 48)), cubicOf(at(32, 48), at(48, 48), at(64, 32), at(64, 0)), impl.OK))
	found := map[int64]int{}
	for _, c := range manyCubics(2000) {
		due := int64(impl.OK)
		for _, p := range controlsOf(c) {
			if max(p.X, -p.X, p.Y, -p.Y) > impl.MaxCoord/8 {
				due = impl.ErrRange
			}
		}
		found[due]++
		one, two, code := impl.HalvesOf(c)
		check(t, show("HalvesOf", c), code, due)
		if due != impl.OK {
			check(t, show("halves", c), show(one, two), show(cubic{}, cubic{}))
			continue
		}
		check(t, show("halves are valid", c), impl.ValidCubic(one) && impl.ValidCubic(two), true)
		// A cubic is known by four of its points.
		for k := range int64(5) {
			first, second := bernstein(ratio(k, 8), controlsOf(c)...).times(8), bernstein(ratio(4+k, 8), controlsOf(c)...).times(8)
			check(t, show("first half", c), bernstein(ratio(k, 4), controlsOf(one)...).equals(first), true)
			check(t, show("second half", c), bernstein(ratio(k, 4), controlsOf(two)...).equals(second), true)
		}
	}
	if found[impl.OK] < 500 || found[impl.ErrRange] < 200 {
		t.Errorf("the curves of this test do not reach all codes: %v", found)
	}
}

// TestHalvesLimits checks the limit for each coordinate.
func TestHalvesLimits(t *testing.T) {
	const limit = impl.MaxCoord / 8
	for i := range 4 {
		for _, way := range []pt{at(1, 0), at(-1, 0), at(0, 1), at(0, -1)} {
			inside, outside := withControl(cubic{}, i, at(way.X*limit, way.Y*limit)), withControl(cubic{}, i, at(way.X*(limit+1), way.Y*(limit+1)))
			_, _, code := impl.HalvesOf(inside)
			check(t, show("HalvesOf", inside), code, impl.OK)
			one, two, code := impl.HalvesOf(outside)
			check(t, show("HalvesOf", outside), show(one, two, code), show(cubic{}, cubic{}, impl.ErrRange))
		}
	}
	for _, bad := range badCubics() {
		one, two, code := impl.HalvesOf(bad)
		check(t, show("HalvesOf", bad), show(one, two, code), show(cubic{}, cubic{}, impl.ErrInvalid))
	}
}

func TestReverseCubic(t *testing.T) {
	check(t, "reverse", impl.ReverseCubic(cubicOf(at(1, 2), at(3, 4), at(5, 6), at(7, 8))), cubicOf(at(7, 8), at(5, 6), at(3, 4), at(1, 2)))
	for _, c := range append(manyCubics(200), badCubics()...) {
		reverse := impl.ReverseCubic(c)
		check(t, show("reverse of ", c), reverse, cubicOf(c.D, c.C, c.B, c.A))
		check(t, show("twice ", c), impl.ReverseCubic(reverse), c)
		for k := range int64(5) {
			one, code := impl.CubicAt(c, k, 2)
			two, other := impl.CubicAt(reverse, 4-k, 2)
			check(t, show("point of the reverse of ", c), show(two, other), show(one, code))
		}
	}
}

func sizeOf(p pt) int64 { return max(p.X, -p.X) + max(p.Y, -p.Y) }

// bendOf returns the bend by the words of the document.
func bendOf(c cubic) int64 {
	return max(sizeOf(secondDifference(c.A, c.B, c.C)), sizeOf(secondDifference(c.B, c.C, c.D)))
}

func TestBendOf(t *testing.T) {
	const m = impl.MaxCoord
	cases := []struct {
		c    cubic
		want int64
	}{
		{cubicOf(at(0, 0), at(0, 8), at(8, 8), at(8, 0)), 16}, {cubic{}, 0}, {cubicOf(at(0, 0), at(1, 2), at(2, 4), at(3, 6)), 0},
		{cubicOf(at(5, 0), at(0, 0), at(0, 0), at(0, 0)), 5}, {cubicOf(at(0, -5), at(0, 0), at(0, 0), at(0, 0)), 5}, {cubicOf(at(0, 0), at(0, 0), at(0, 0), at(0, 7)), 7}, {cubicOf(at(0, 0), at(0, 0), at(0, 0), at(-7, 0)), 7},
		{cubicOf(at(3, -4), at(0, 0), at(0, 0), at(0, 6)), 7}, {cubicOf(at(3, -4), at(0, 0), at(0, 0), at(-8, 0)), 8}, {cubicOf(at(0, 0), at(3, 0), at(0, 0), at(0, 0)), 6}, {cubicOf(at(0, 0), at(0, 0), at(0, -3), at(0, 0)), 6},
		{cubicOf(at(m, -m), at(-m, m), at(m, -m), at(-m, m)), 8 * m}, {cubicOf(at(0, 0), at(m, m), at(-m, -m), at(m, m)), 8 * m},
	}
	for _, c := range cases {
		got, code := impl.BendOf(c.c)
		check(t, show("BendOf", c.c), show(got, code), show(c.want, impl.OK))
	}
	for _, c := range manyCubics(1000) {
		got, code := impl.BendOf(c)
		check(t, show("BendOf", c), show(got, code), show(bendOf(c), impl.OK))
		reversed, _ := impl.BendOf(impl.ReverseCubic(c))
		check(t, show("bend of the reverse", c), reversed, got)
	}
	for _, bad := range badCubics() {
		got, code := impl.BendOf(bad)
		check(t, show("BendOf", bad), show(got, code), show(0, impl.ErrInvalid))
	}
}

func badTolerances() []int64 {
	return []int64{0, -1, impl.MaxCoord + 1, -impl.MaxCoord, math.MaxInt64, math.MinInt64, 1 << 32}
}

// wantedLevel returns the least level for which a number is at most 4 * tolerance * 4^level.
func wantedLevel(number, tolerance int64) (int64, int64) {
	for level, limit := int64(0), 4*tolerance; level <= 6; level, limit = level+1, 4*limit {
		if number <= limit {
			return level, impl.OK
		}
	}
	return 0, impl.ErrFull
}

// bent returns a curve whose bend is a number up to MaxCoord.
func bent(bend int64) cubic { return cubicOf(at(0, 0), at(0, 0), at(0, 0), at(0, -bend)) }

func TestLevelFor(t *testing.T) {
	cases := []struct{ bend, tolerance, want, code int64 }{
		{0, 1, 0, 0}, {1, 1, 0, 0}, {2, 1, 1, 0}, {5, 1, 1, 0}, {6, 1, 2, 0}, {21, 1, 2, 0}, {22, 1, 3, 0}, {85, 1, 3, 0}, {86, 1, 4, 0}, {341, 1, 4, 0}, {342, 1, 5, 0}, {1365, 1, 5, 0}, {1366, 1, 6, 0}, {5461, 1, 6, 0}, {5462, 1, 0, impl.ErrFull},
		{4, 3, 0, 0}, {5, 3, 1, 0}, {16, 3, 1, 0}, {17, 3, 2, 0}, {64, 3, 2, 0}, {65, 3, 3, 0}, {256, 3, 3, 0}, {257, 3, 4, 0}, {1024, 3, 4, 0}, {1025, 3, 5, 0}, {4096, 3, 5, 0}, {4097, 3, 6, 0}, {16384, 3, 6, 0}, {16385, 3, 0, impl.ErrFull},
		{16, 12, 0, 0}, {16, 11, 1, 0}, {262144, 1, 0, impl.ErrFull}, {262144, 48, 6, 0}, {262144, 47, 0, impl.ErrFull}, {262144, 196608, 0, 0}, {262144, 196607, 1, 0}, {262144, impl.MaxCoord, 0, 0}, {0, impl.MaxCoord, 0, 0},
	}
	for _, c := range cases {
		got, code := impl.LevelFor(bent(c.bend), c.tolerance)
		check(t, show("LevelFor", c), show(got, code), show(c.want, c.code))
		got, code = impl.LevelFor(impl.ReverseCubic(bent(c.bend)), c.tolerance)
		check(t, show("LevelFor of the reverse", c), show(got, code), show(c.want, c.code))
	}
	widest := goodCubics()[14]
	for _, c := range [][3]int64{{383, 0, impl.ErrFull}, {384, 6, impl.OK}, {1535, 6, impl.OK}, {1536, 5, impl.OK}, {impl.MaxCoord, 2, impl.OK}} {
		got, code := impl.LevelFor(widest, c[0])
		check(t, show("LevelFor the widest curve", c), show(got, code), show(c[1], c[2]))
	}
}

func TestLevelForRandom(t *testing.T) {
	random := fixedRandom()
	found := map[string]int{}
	for _, c := range manyCubics(3000) {
		tolerance := 1 + random.Int63n(int64(1)<<random.Intn(19))
		got, code := impl.LevelFor(c, tolerance)
		want, due := wantedLevel(3*bendOf(c), tolerance)
		check(t, show("LevelFor", c, tolerance), show(got, code), show(want, due))
		found[show(want, due)]++
	}
	if len(found) != 8 {
		t.Errorf("the curves of this test do not reach all levels and codes: %v", found)
	}
}

func TestToleranceOfCubics(t *testing.T) {
	for _, tolerance := range badTolerances() {
		for _, c := range goodCubics() {
			level, one := impl.LevelFor(c, tolerance)
			list, two := impl.FlattenCubic(c, tolerance)
			check(t, show("tolerance", tolerance, c), show(level, one, list, two), show(0, impl.ErrRange, []pt{}, impl.ErrRange))
		}
	}
	for _, bad := range badCubics() {
		for _, tolerance := range append(badTolerances(), 1, 5, impl.MaxCoord) {
			level, one := impl.LevelFor(bad, tolerance)
			list, two := impl.FlattenCubic(bad, tolerance)
			check(t, show("not valid", tolerance, bad), show(level, one, list, two), show(0, impl.ErrInvalid, []pt{}, impl.ErrInvalid))
		}
	}
}

func TestFlattenCubic(t *testing.T) {
	arch := cubicOf(at(0, 0), at(0, 8), at(8, 8), at(8, 0))
	cases := []struct {
		c         cubic
		tolerance int64
		want      []pt
		code      int64
	}{
		{arch, 12, []pt{at(0, 0), at(8, 0)}, impl.OK}, {arch, 3, []pt{at(0, 0), at(4, 6), at(8, 0)}, impl.OK}, {arch, 1, []pt{at(0, 0), at(1, 5), at(4, 6), at(7, 5), at(8, 0)}, impl.OK},
		{cubic{}, 1, []pt{{}, {}}, impl.OK}, {cubicOf(at(0, 0), at(1, 0), at(2, 0), at(3, 0)), 1, []pt{at(0, 0), at(3, 0)}, impl.OK}, {cubicOf(at(2, 2), at(9, 2), at(9, 2), at(2, 2)), 2, []pt{at(2, 2), at(7, 2), at(2, 2)}, impl.OK},
		{bent(5462), 1, nil, impl.ErrFull}, {bent(16), 1, []pt{at(0, 0), at(0, 0), at(0, -2), at(0, -7), at(0, -16)}, impl.OK},
	}
	for _, c := range cases {
		got, code := impl.FlattenCubic(c.c, c.tolerance)
		check(t, show("FlattenCubic", c.c, c.tolerance), show(got, code), show(c.want, c.code))
	}
	random := fixedRandom()
	for _, c := range manyCubics(500) {
		tolerance := 1 + random.Int63n(int64(1)<<random.Intn(19))
		level, due := impl.LevelFor(c, tolerance)
		var want []pt
		for k := int64(0); k <= 1<<level && due == impl.OK; k++ {
			p, _ := impl.CubicAt(c, k, level)
			want = append(want, p)
		}
		got, code := impl.FlattenCubic(c, tolerance)
		check(t, show("FlattenCubic", c, tolerance), show(got, code), show(want, due))
	}
}

// parabola returns a curve of which both second differences are the same, so that it is as far from its chord as the bend allows.
func parabola(from, to, bend pt) cubic {
	x, y := to.X-from.X, to.Y-from.Y
	return cubicOf(from, at(from.X+x/3-bend.X, from.Y+y/3-bend.Y), at(from.X+2*(x/3)-bend.X, from.Y+2*(y/3)-bend.Y), at(from.X+3*(x/3), from.Y+3*(y/3)))
}

// checkFlat holds every point of a curve, at several parameters for each leg of the path, to be near the path.
func checkFlat(t *testing.T, c cubic, tolerance int64) int {
	t.Helper()
	path, code := impl.FlattenCubic(c, tolerance)
	if code != impl.OK {
		return 0
	}
	legs := int64(len(path) - 1)
	check(t, show("begin and end", c), show(path[0], path[legs]), show(c.A, c.D))
	for k := range legs {
		for _, part := range []int64{0, 3, 8, 11, 16} {
			p := bernstein(ratio(16*k+part, 16*legs), controlsOf(c)...)
			check(t, show("near the path", c, tolerance, k, part), p.isWithin(tolerance+1, path[k], path[k+1]), true)
		}
	}
	return len(path)
}

// TestFlattenedCubicsNear is promise 10: every point of a curve is within the tolerance plus 1 of the path.
func TestFlattenedCubicsNear(t *testing.T) {
	random := fixedRandom()
	found := map[int]int{}
	for _, c := range manyCubics(400) {
		found[checkFlat(t, c, 1+random.Int63n(int64(1)<<random.Intn(19)))]++
	}
	for range 400 {
		// The bend is just as great as the level allows, or a little less.
		tolerance := 3 * (1 + random.Int63n(int64(1)<<random.Intn(12)))
		bend := tolerance / 3 * (int64(4) << (2 * random.Intn(4)))
		by := pick(random, []pt{at(bend, 0), at(0, -bend), at(-bend/2, bend/2), at(bend-1, 0)})
		c := parabola(placeIn(random, 1000), placeIn(random, 100000), by)
		if impl.ValidCubic(c) {
			found[checkFlat(t, c, tolerance)]++
		}
	}
	for level := range 7 {
		if found[1<<level+1] < 10 {
			t.Errorf("too few paths of a length: %v", found)
		}
	}
}

func TestCubicBounds(t *testing.T) {
	low, high, code := impl.CubicBounds(cubicOf(at(1, 9), at(5, -3), at(-7, 2), at(4, 4)))
	check(t, "CubicBounds", show(low, high, code), show(at(-7, -3), at(5, 9), impl.OK))
	for _, c := range manyCubics(1000) {
		low, high, code := impl.CubicBounds(c)
		var xs, ys []int64
		for _, p := range controlsOf(c) {
			xs, ys = append(xs, p.X), append(ys, p.Y)
		}
		check(t, show("CubicBounds", c), show(low, high, code), show(at(slices.Min(xs), slices.Min(ys)), at(slices.Max(xs), slices.Max(ys)), impl.OK))
		for k := range int64(9) {
			p, _ := impl.CubicAt(c, k, 3)
			check(t, show("point in box", c, k), low.X <= p.X && p.X <= high.X && low.Y <= p.Y && p.Y <= high.Y, true)
		}
	}
	for i := range 4 {
		for _, p := range []pt{at(9, 0), at(-9, 0), at(0, 9), at(0, -9)} {
			low, high, code := impl.CubicBounds(withControl(cubic{}, i, p))
			check(t, show("CubicBounds", i, p), show(low, high, code), show(at(min(p.X, 0), min(p.Y, 0)), at(max(p.X, 0), max(p.Y, 0)), impl.OK))
		}
	}
	for _, bad := range badCubics() {
		low, high, code := impl.CubicBounds(bad)
		check(t, show("CubicBounds", bad), show(low, high, code), show(pt{}, pt{}, impl.ErrInvalid))
	}
}

var pointForm = regexp.MustCompile(`^(-?[0-9]{1,7}),(-?[0-9]{1,7})$`)

// wantedPt reads a text of a point by the rules of the document.
func wantedPt(s string) (pt, bool) {
	match := pointForm.FindStringSubmatch(s)
	if match == nil {
		return pt{}, false
	}
	x, one := canonicalNumber(match[1])
	y, two := canonicalNumber(match[2])
	return at(x, y), one && two && max(x, -x, y, -y) <= 262144
}

// wantedCubic reads a text of a curve by the rules of the document.
func wantedCubic(s string) (cubic, bool) {
	var list []pt
	for _, word := range strings.Split(s, " ") {
		p, ok := wantedPt(word)
		if !ok {
			return cubic{}, false
		}
		list = append(list, p)
	}
	if len(list) != 4 {
		return cubic{}, false
	}
	return cubicOf(list...), true
}

func checkReadCubic(t *testing.T, s string) bool {
	t.Helper()
	got, ok := impl.ReadCubic(s)
	want, wanted := wantedCubic(s)
	check(t, fmt.Sprintf("ReadCubic(%.80q)", s), show(got, ok), show(want, wanted))
	if ok {
		check(t, fmt.Sprintf("CubicText of %.80q", s), impl.CubicText(got), s)
	}
	return ok
}

// edited returns texts that differ from a text by a byte or by a word between blanks.
func edited(text, letters string, others ...string) []string {
	var list []string
	for i := range len(text) + 1 {
		rest := text[min(i+1, len(text)):]
		list = append(list, text[:i]+rest, text[:i])
		for k := range letters {
			list = append(list, text[:i]+letters[k:k+1]+text[i:], text[:i]+letters[k:k+1]+rest)
		}
	}
	words := strings.Split(text, " ")
	for i := range words {
		list = append(list, strings.Join(slices.Delete(slices.Clone(words), i, i+1), " "))
		for _, other := range append(others, words...) {
			list = append(list, strings.Join(slices.Insert(slices.Clone(words), i, other), " "), strings.Join(slices.Replace(slices.Clone(words), i, i+1, other), " "))
		}
	}
	return list
}

func TestCubicTexts(t *testing.T) {
	const m = impl.MaxCoord
	check(t, "text", impl.CubicText(cubicOf(at(0, 0), at(0, 8), at(8, -8), at(-8, 0))), "0,0 0,8 8,-8 -8,0")
	check(t, "text at the limits", impl.CubicText(cubicOf(at(m, -m), at(-m, m), at(0, m), at(m, 0))), "262144,-262144 -262144,262144 0,262144 262144,0")
	for _, c := range manyCubics(1000) {
		got, ok := impl.ReadCubic(impl.CubicText(c))
		check(t, "ReadCubic "+impl.CubicText(c), show(got, ok), show(c, true))
		check(t, "read by the rules "+impl.CubicText(c), checkReadCubic(t, impl.CubicText(c)), true)
	}
	for _, bad := range badCubics() {
		check(t, show("CubicText", bad), impl.CubicText(bad), "")
	}
	for _, s := range append(oddTexts(), "0,0", "0,0 1,1", "0,0 1,1 2,2", "0,0 1,1 2,2 3,3 4,4", "0,0 1,1 2,2 3,3 ", " 0,0 1,1 2,2 3,3", "0,0  1,1 2,2 3,3", "0,0 1,1 2,2 3,3\n", "0,0 1,1\n2,2 3,3", "0,0 1,1\t2,2 3,3",
		"0,0 1,1 2,2 3,-0", "0,0 1,1 2,2 03,3", "0,0 1,1 2,2 +3,3", "0,0 1,1 2,2 3", "0,0 1,1 2,2 3,3,3", "0,0 1,1 2,2 x", "x 0,0 1,1 2,2 3,3", "0,0 1,1 x 2,2 3,3", "0,0 1,1 2,2 3,3 x", "262145,0 1,1 2,2 3,3", "0,0 1,1 2,2 3,-262145",
		"0,0 1,1 2,2 262145,3 4,4", "open 3 0,0 1,1", strings.Repeat("0,0 ", 100000), strings.Repeat(" ", 100000), "0,0;1,1;2,2;3,3", "0,0, 1,1, 2,2, 3,3") {
		check(t, fmt.Sprintf("is read: %.80q", s), checkReadCubic(t, s), false)
	}
	read := 0
	for _, text := range []string{"0,0 3,0 12,-5 7,1", "262144,0 -1,-1 0,0 0,-262144"} {
		for _, s := range edited(text, " -,0123~", "", "1,1", "x", "262145,0") {
			if checkReadCubic(t, s) {
				read++
			}
		}
	}
	if read < 100 {
		t.Errorf("only %d texts are read", read)
	}
}

// cubicResults are what the functions of chapter 9 return for some arguments, valid or not.
type cubicResults struct {
	at, low, high        pt
	bend, level          int64
	path                 []pt
	one, two, back, read cubic
	text                 string
	valid, ok            bool
	codes                []int64
}

func cubicResultsOf(c cubic, k, level, tolerance int64, text string) cubicResults {
	var r cubicResults
	r.codes = make([]int64, 6)
	r.at, r.codes[0] = impl.CubicAt(c, k, level)
	r.one, r.two, r.codes[1] = impl.HalvesOf(c)
	r.bend, r.codes[2] = impl.BendOf(c)
	r.level, r.codes[3] = impl.LevelFor(c, tolerance)
	r.path, r.codes[4] = impl.FlattenCubic(c, tolerance)
	r.low, r.high, r.codes[5] = impl.CubicBounds(c)
	r.back, r.text, r.valid = impl.ReverseCubic(c), impl.CubicText(c), impl.ValidCubic(c)
	r.read, r.ok = impl.ReadCubic(text)
	return r
}

// checkZero holds everything that comes with an error to be 0.
func (r cubicResults) checkZero(t *testing.T) {
	t.Helper()
	zero := []bool{r.at == pt{}, r.one == cubic{} && r.two == cubic{}, r.bend == 0, r.level == 0, len(r.path) == 0, r.low == pt{} && r.high == pt{}}
	for i, code := range r.codes {
		if code != impl.OK && !zero[i] {
			t.Errorf("result %d is not 0 though the code is %d: %+v", i, code, r)
		}
	}
	check(t, "text of a curve that is valid", r.text != "", r.valid)
	if !r.ok {
		check(t, "curve with false", r.read, cubic{})
	}
}

// TestCubicsTotal is promise 1 for chapter 9: all functions return for all arguments, twice alike, in new memory.
func TestCubicsTotal(t *testing.T) {
	random := fixedRandom()
	cubics, points, numbers := append(badCubics(), manyCubics(60)...), append(badPts(), cornerPts()...), extremeNumbers()
	texts := append(oddTexts(), "0,0 1,1 2,2 3,3", "0,0 1,1 2,2 3,3 ", "262145,0 1,1 2,2 3,3")
	for range 5000 {
		c := pick(random, cubics)
		if random.Intn(2) == 0 {
			c = withControl(c, random.Intn(4), pick(random, points))
		}
		k, level, tolerance, text := pick(random, numbers), pick(random, numbers), pick(random, numbers), pick(random, texts)
		if random.Intn(2) == 0 {
			k, level, tolerance = random.Int63n(5), random.Int63n(9)-1, random.Int63n(1000)
		}
		first := cubicResultsOf(c, k, level, tolerance, text)
		first.checkZero(t)
		shown := show(first)
		overwrite(first.path, at(55, 55))
		if shown != show(cubicResultsOf(c, k, level, tolerance, text)) {
			t.Fatal("equal arguments have different results: ", c, k, level, tolerance, text)
		}
	}
}
