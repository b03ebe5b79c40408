package tests

import (
	"math"
	"math/rand"
	"slices"
	"testing"

	"loop.example/g00883/impl"
)

func TestFittingConstants(t *testing.T) { check(t, "MaxFit", impl.MaxFit, 64) }

// isCornered reports whether the way from a by p to b turns back, or by more than the angle with the tangent 1/2.
func isCornered(a, p, b pt) bool {
	u, v := apart(p, a), apart(b, p)
	cross, dot := crossOf(u, v), dotOf(u, v)
	if dot <= 0 {
		return u != pt{} && v != pt{}
	}
	return ratio(max(cross, -cross), dot).Cmp(ratio(1, 2)) > 0
}

// checkCorner holds IsCorner against the angle, in both directions.
func checkCorner(t *testing.T, a, p, b pt) bool {
	t.Helper()
	want := isCornered(a, p, b)
	check(t, show("IsCorner", a, p, b), impl.IsCorner(a, p, b), want)
	check(t, show("IsCorner", b, p, a), impl.IsCorner(b, p, a), want)
	return want
}

func TestIsCorner(t *testing.T) {
	const m = impl.MaxCoord
	cases := []struct {
		a, p, b pt
		want    bool
	}{
		{at(0, 0), at(4, 0), at(8, 1), false}, {at(0, 0), at(4, 0), at(8, 2), false}, {at(0, 0), at(4, 0), at(8, 3), true}, {at(0, 0), at(4, 0), at(8, -2), false}, {at(0, 0), at(4, 0), at(8, -3), true}, {at(0, 0), at(4, 0), at(8, 0), false},
		{at(0, 0), at(4, 0), at(4, 4), true}, {at(0, 0), at(4, 0), at(3, 1), true}, {at(0, 0), at(4, 0), at(0, 0), true}, {at(0, 0), at(4, 0), at(3, 0), true}, {at(0, 0), at(4, 0), at(-9, 1), true}, {at(5, 5), at(2, 1), at(-2, -4), false}, {at(5, 5), at(2, 1), at(0, -5), false}, {at(5, 5), at(2, 1), at(1, -5), true},
		// A point that is equal to one beside it is no corner.
		{at(4, 0), at(4, 0), at(8, 9), false}, {at(0, 0), at(4, 0), at(4, 0), false}, {at(4, 0), at(4, 0), at(4, 0), false},
		{at(-m, -m), at(m, -m), at(m, m), true}, {at(-m, -m), at(0, -m), at(m, 0), true}, {at(-m, -m), at(0, -m), at(m, -m/2), false}, {at(-m, -m), at(0, -m), at(m, -m/2+1), true}, {at(-m, -m), at(m, m), at(-m, -m), true}, {at(-m, -m), at(0, 0), at(m, m), false}, {at(m, -m), at(-m, m), at(m, 1-m), true},
	}
	for _, c := range cases {
		check(t, show("IsCorner", c.a, c.p, c.b), checkCorner(t, c.a, c.p, c.b), c.want)
	}
	for _, a := range gridPts(0, 4) {
		for _, b := range gridPts(0, 4) {
			for _, p := range gridPts(1, 3) {
				u, v := apart(p, a), apart(b, p)
				turn := math.Abs(math.Atan2(float64(crossOf(u, v)), float64(dotOf(u, v))))
				check(t, show("turn", a, p, b), checkCorner(t, a, p, b), turn > math.Atan(0.5)+1e-9)
			}
		}
	}
	random, found := fixedRandom(), map[bool]int{}
	for range 20000 {
		checkCorner(t, randomPt(random), randomPt(random), randomPt(random))
		// Exactly at the limit, and beside it.
		p, u, k := randomPt(random), placeIn(random, 200), 1+random.Int63n(200)
		v := at(k*(2*u.X-u.Y), k*(2*u.Y+u.X))
		b := at(p.X+v.X+random.Int63n(3)-1, p.Y+v.Y+random.Int63n(3)-1)
		if a := apart(p, u); impl.ValidPt(a) && impl.ValidPt(b) {
			found[checkCorner(t, a, p, b)]++
		}
	}
	if found[true] < 1000 || found[false] < 1000 {
		t.Errorf("too few points are close to the limit: %v", found)
	}
	for _, a := range cornerPts() {
		for _, p := range cornerPts() {
			for _, b := range cornerPts() {
				checkCorner(t, a, p, b)
			}
		}
	}
	for _, bad := range badPts() {
		check(t, show("IsCorner", bad), show(impl.IsCorner(bad, at(4, 0), at(4, 4)), impl.IsCorner(at(0, 0), bad, at(4, 4)), impl.IsCorner(at(0, 0), at(4, 0), bad), impl.IsCorner(bad, bad, bad)), show(false, false, false, false))
	}
}

// isNearExactly reports whether p is within a distance of a segment between successive points, or of the only point.
func isNearExactly(path []pt, p pt, distance int64) bool {
	for i := range path[1:] {
		if exactOf(p).isWithin(distance, path[i], path[i+1]) {
			return true
		}
	}
	return len(path) == 1 && exactOf(p).isWithin(distance, path[0], path[0])
}

// checkNear holds NearPath against exact distances.
func checkNear(t *testing.T, path []pt, p pt, distance int64) bool {
	t.Helper()
	want := isNearExactly(path, p, distance)
	check(t, show("NearPath", path, p, distance), impl.NearPath(path, p, distance), want)
	check(t, show("PathWithin of one point", p, path, distance), impl.PathWithin([]pt{p}, path, distance), want)
	back := slices.Clone(path)
	slices.Reverse(back)
	check(t, show("NearPath", back, p, distance), impl.NearPath(back, p, distance), want)
	return want
}

// badDistances are numbers that are no distances.
func badDistances() []int64 {
	return []int64{-1, -2, -impl.MaxCoord, impl.MaxCoord + 1, 1 << 40, math.MaxInt64, math.MinInt64}
}

func TestNearPath(t *testing.T) {
	const m = impl.MaxCoord
	cases := []struct {
		path     string
		p        pt
		distance int64
		want     bool
	}{
		{"0,0 10,0 10,10", at(5, 2), 2, true}, {"0,0 10,0 10,10", at(5, 3), 2, false}, {"0,0 10,0 10,10", at(12, 5), 2, true}, {"0,0 10,0 10,10", at(13, 5), 2, false}, {"0,0 10,0 10,10", at(13, -4), 5, true}, {"0,0 10,0 10,10", at(13, -4), 4, false}, {"0,0 10,0 10,10", at(10, 0), 0, true}, {"0,0 10,0 10,10", at(10, 3), 0, true}, {"0,0 10,0 10,10", at(9, 3), 0, false},
		// There is no way from the last point to the first one.
		{"0,0 10,0 10,10", at(5, 5), 4, false}, {"0,0 10,0 10,10", at(5, 5), 5, true}, {"0,0 99,0 99,99", at(50, 50), 48, false}, {"0,0 10,0 10,10", at(13, 14), 4, false}, {"0,0 10,0 10,10", at(13, 14), 5, true}, {"0,0 10,0 10,10", at(-3, 4), 5, true}, {"0,0 10,0 10,10", at(-3, 4), 4, false},
		{"5,5", at(8, 9), 5, true}, {"5,5", at(8, 9), 4, false}, {"5,5", at(5, 5), 0, true}, {"5,5 5,5", at(8, 9), 5, true}, {"5,5 5,5 5,5", at(8, 10), 5, false}, {"0,0 0,0 10,0", at(5, 0), 0, true}, {"0,0 10,0 10,0", at(5, 1), 0, false}, {"0,0 10,0 0,0", at(7, 1), 1, true},
		{"-262144,-262144 262144,262144", at(0, 1), 1, true}, {"-262144,-262144 262144,262144", at(0, 2), 1, false}, {"-262144,-262144 262144,-262144", at(0, 0), m, true}, {"-262144,-262144 262144,-262144", at(0, 1), m, false}, {"0,0", at(m, 0), m, true}, {"0,0", at(m, 1), m, false},
	}
	for _, c := range cases {
		check(t, show("NearPath", c.path, c.p, c.distance), checkNear(t, points(c.path), c.p, c.distance), c.want)
	}
	random, found := fixedRandom(), map[bool]int{}
	for range 3000 {
		limit := int64(2) << random.Intn(18)
		path, p := manyPts(random, 1+random.Intn(6), limit), placeIn(random, limit)
		i := random.Intn(len(path))
		from := nearestOn(path[max(i-1, 0)], path[i], p).distSq(exactOf(p))
		root, _ := from.Float64()
		for _, distance := range []int64{int64(math.Sqrt(root)), int64(math.Sqrt(root)) + 1} {
			if distance <= m {
				found[checkNear(t, path, p, distance)]++
			}
		}
	}
	if found[true] < 1000 || found[false] < 1000 {
		t.Errorf("too few points are near a path, or are not: %v", found)
	}
	path, far := inLine(impl.MaxRing, at(-399, 7), at(2, 0)), inLine(impl.MaxRing+1, at(-399, 7), at(2, 0))
	check(t, "a path of most points", show(checkNear(t, path, at(399, 8), 1), checkNear(t, path, at(-399, 6), 1), checkNear(t, path, at(400, 8), 1)), show(true, true, false))
	check(t, "a path of too many points", show(impl.NearPath(far, at(0, 7), 1), impl.PathWithin(far, path, 9), impl.PathWithin(path, far, 9), impl.PathWithin(path, path, 9)), show(false, false, false, true))
}

func TestPathWithin(t *testing.T) {
	cases := []struct {
		a, b     string
		distance int64
		want     bool
	}{
		{"5,1 11,6", "0,0 10,0 10,10", 1, true}, {"5,5", "0,0 10,0 10,10", 4, false}, {"5,5", "0,0 10,0 10,10", 5, true}, {"5,1 12,6", "0,0 10,0 10,10", 1, false}, {"5,2 11,6", "0,0 10,0 10,10", 1, false}, {"5,1 11,6 0,-2", "0,0 10,0 10,10", 1, false},
		// Only the points of the first path matter, and the whole second one.
		{"0,0 10,10", "0,0 10,0 10,10", 0, true}, {"0,0 10,0 10,10", "0,0 10,10", 7, false}, {"0,0 10,0 10,10", "0,0 10,10", 8, true}, {"3,0 8,0", "0,0 10,0", 0, true}, {"0,0 10,0", "3,0 8,0", 2, false}, {"0,0 10,0", "3,0 8,0", 3, true}, {"4,4 4,4", "4,4", 0, true}, {"4,4 4,5", "4,4", 0, false}, {"4,4 4,5", "4,4", 1, true},
	}
	for _, c := range cases {
		check(t, show("PathWithin", c.a, c.b, c.distance), impl.PathWithin(points(c.a), points(c.b), c.distance), c.want)
	}
	random, found := fixedRandom(), map[bool]int{}
	for range 3000 {
		limit := int64(2) << random.Intn(6)
		a, b, distance := manyPts(random, 1+random.Intn(4), limit), manyPts(random, 1+random.Intn(5), limit), random.Int63n(limit)
		want := !slices.ContainsFunc(a, func(p pt) bool { return !isNearExactly(b, p, distance) })
		check(t, show("PathWithin", a, b, distance), impl.PathWithin(a, b, distance), want)
		check(t, show("a path is within 0 of itself", a), impl.PathWithin(a, a, 0), true)
		found[want]++
	}
	if found[true] < 500 || found[false] < 500 {
		t.Errorf("too few paths are near another one, or are not: %v", found)
	}
	good, p := points("0,0 10,0 10,10"), at(5, 0)
	for _, bad := range badPaths() {
		check(t, show("NearPath", bad), show(impl.NearPath(bad, p, 9), impl.NearPath(bad, p, impl.MaxCoord), impl.PathWithin(bad, good, impl.MaxCoord), impl.PathWithin(good, bad, impl.MaxCoord), impl.PathWithin(bad, bad, impl.MaxCoord)), show(false, false, false, false, false))
	}
	for _, bad := range badPts() {
		check(t, show("NearPath", bad), show(impl.NearPath(good, bad, impl.MaxCoord), impl.NearPath([]pt{bad}, bad, impl.MaxCoord)), show(false, false))
	}
	for _, bad := range badDistances() {
		check(t, show("distance", bad), show(impl.NearPath(good, p, bad), impl.NearPath(good, at(0, 0), bad), impl.NearPath([]pt{p}, p, bad), impl.PathWithin(good, good, bad)), show(false, false, false, false))
	}
}

// wantedMeeting returns the common point of two lines, from its place on the second one.
func wantedMeeting(a, b, c, d pt) (pt, int64) {
	u, v := apart(b, a), apart(d, c)
	if crossOf(v, u) == 0 {
		return pt{}, impl.ErrState
	}
	p := partWay(c, d, ratio(crossOf(apart(a, c), u), crossOf(v, u))).rounded()
	if max(p.X, -p.X, p.Y, -p.Y) > impl.MaxCoord {
		return pt{}, impl.ErrState
	}
	return p, impl.OK
}

// checkLines holds LinesMeet, for all orders of the points, against exact numbers.
func checkLines(t *testing.T, a, b, c, d pt) int64 {
	t.Helper()
	want, due := wantedMeeting(a, b, c, d)
	for _, o := range orders(a, b, c, d) {
		got, code := impl.LinesMeet(o[0], o[1], o[2], o[3])
		if got != want || code != due {
			t.Errorf("LinesMeet%v: got %v with code %d, want %v with code %d", o, got, code, want, due)
		}
	}
	return due
}

func TestLinesMeet(t *testing.T) {
	const m = impl.MaxCoord
	cases := []struct {
		line, other string
		want        string
	}{
		{"0,0 4,4", "10,0 9,1", "5,5"}, {"0,0 4,4", "0,4 4,0", "2,2"}, {"0,0 4,0", "7,7 7,8", "7,0"}, {"0,0 4,0", "7,-3 7,-8", "7,0"}, {"0,0 1,1", "0,1 1,0", "1,1"}, {"0,0 -1,-1", "0,-1 -1,0", "0,0"}, {"0,0 4,3", "0,3 4,0", "2,2"}, {"0,0 4,0", "4,0 4,4", "4,0"}, {"0,0 4,0", "0,0 1,9", "0,0"},
		// Parallel lines, the same line, and no line.
		{"0,0 4,4", "10,0 14,4", ""}, {"0,0 4,4", "10,0 6,-4", ""}, {"0,0 4,4", "2,2 7,7", ""}, {"0,0 4,4", "0,0 4,4", ""}, {"0,0 4,4", "4,4 0,0", ""}, {"0,0 0,0", "4,0 0,0", ""}, {"0,0 0,0", "4,0 9,5", ""}, {"4,0 9,5", "0,0 0,0", ""}, {"0,0 0,0", "0,0 0,0", ""}, {"0,0 0,0", "3,3 3,3", ""},
		// At the limits: halves are rounded up, so that they are out of the range only on one side.
		{"0,0 1,0", "262143,4 262144,1", "262144,0"}, {"0,0 1,0", "262143,3 262144,1", ""}, {"0,0 1,0", "-262143,3 -262144,1", "-262144,0"}, {"0,0 1,0", "-262142,4 -262144,1", ""}, {"0,0 0,1", "4,262143 1,262144", "0,262144"}, {"0,0 0,1", "3,262143 1,262144", ""}, {"0,0 0,1", "3,-262143 1,-262144", "0,-262144"}, {"0,0 0,1", "4,-262142 1,-262144", ""},
		{"0,0 262144,1", "0,20 262144,20", ""}, {"0,0 262144,1", "0,1 262144,1", "262144,1"}, {"-262144,-262144 262144,262144", "-262144,262144 262144,-262144", "0,0"}, {"-262144,-262144 262144,262143", "262144,262144 -262144,-262143", ""}, {"-262144,-262144 262144,262144", "262144,262144 262143,-262144", "262144,262144"}, {"-262144,-262144 -262143,262144", "262144,262144 262143,-262144", ""}, {"-262144,-262144 262144,262144", "262144,262143 -262144,-262144", "-262144,-262144"},
	}
	for _, c := range cases {
		line, other, want, due := points(c.line), points(c.other), pt{}, int64(impl.ErrState)
		if c.want != "" {
			want, due = points(c.want)[0], impl.OK
		}
		got, code := impl.LinesMeet(line[0], line[1], other[0], other[1])
		check(t, show("LinesMeet", c.line, "and", c.other), show(got, code), show(want, due))
		checkLines(t, line[0], line[1], other[0], other[1])
	}
	for _, a := range gridPts(0, 2) {
		for _, b := range gridPts(0, 2) {
			for _, c := range gridPts(-1, 1) {
				checkLines(t, a, b, c, at(1, 0))
				checkLines(t, a, b, c, at(-2, 3))
			}
		}
	}
	random, found := fixedRandom(), map[int64]int{}
	for range 5000 {
		found[checkLines(t, randomPt(random), randomPt(random), randomPt(random), randomPt(random))]++
		line := linePts(random, 4)
		checkLines(t, line[0], line[1], line[2], line[3])
		// Almost parallel ones, at the limits.
		a, b, c, d := pick(random, cornerPts()), pick(random, cornerPts()), pick(random, cornerPts()), pick(random, cornerPts())
		found[checkLines(t, a, b, c, d)]++
	}
	if found[impl.OK] < 1000 || found[impl.ErrState] < 1000 {
		t.Errorf("too few lines that meet, or do not: %v", found)
	}
	for _, bad := range badPts() {
		for i := range 4 {
			for _, list := range [][]pt{points("0,0 4,4 10,0 9,1"), points("0,0 0,0 0,0 0,0"), points("0,0 4,4 0,0 4,4")} {
				list[i] = bad
				got, code := impl.LinesMeet(list[0], list[1], list[2], list[3])
				check(t, show("LinesMeet", list), show(got, code), show(pt{}, impl.ErrInvalid))
			}
		}
	}
}

// areWithin reports whether the points of a are within a distance of the path b of any length.
func areWithin(a, b []pt, distance int64) bool {
	for _, p := range a {
		isNear := len(b) == 1 && impl.NearSegment(b[0], b[0], p, distance)
		for i := 1; i < len(b) && !isNear; i++ {
			isNear = impl.NearSegment(b[i-1], b[i], p, distance)
		}
		if !isNear {
			return false
		}
	}
	return true
}

// wantedFit returns the quadratic near a path by the words of the document.
func wantedFit(path []pt, tolerance int64) (quad, int64) {
	n := len(path)
	if n < 3 || n > 400 {
		return quad{}, impl.ErrInvalid
	}
	corner, code := wantedMeeting(path[0], path[1], path[n-1], path[n-2])
	if code != impl.OK {
		return quad{}, impl.ErrNotFound
	}
	q := quadOf(path[0], corner, path[n-1])
	flat, code := wantedPath(q, 1)
	if code != impl.OK || !areWithin(path, flat, tolerance) || !areWithin(flat, path, tolerance) {
		return quad{}, impl.ErrNotFound
	}
	return q, impl.OK
}

func checkFit(t *testing.T, path []pt, tolerance int64) int64 {
	t.Helper()
	want, due := wantedFit(path, tolerance)
	got, code := impl.FitQuad(path, tolerance)
	check(t, show("FitQuad", path, tolerance), show(got, code), show(want, due))
	return due
}

func TestFitQuad(t *testing.T) {
	const m = impl.MaxCoord
	cases := []struct {
		path      string
		tolerance int64
		want      string
	}{
		{"0,0 4,0 4,4", 1, ""}, {"0,0 4,0 4,4", 2, "0,0 4,0 4,4"}, {"0,0 4,0 8,1", 1, "0,0 4,0 8,1"}, {"0,0 4,0 8,-1", 1, "0,0 4,0 8,-1"}, {"8,1 4,0 0,0", 1, "8,1 4,0 0,0"}, {"0,0 40,0 40,40", 14, ""}, {"0,0 40,0 40,40", 15, "0,0 40,0 40,40"}, {"0,0 1,0 9,4 10,10", 2, "0,0 8,0 10,10"},
		// The curve leaves the path though the path stays near it, and the path leaves the curve though the curve stays near it.
		{"0,0 10,0 100,90 100,100", 28, ""}, {"0,0 10,0 100,90 100,100", 29, "0,0 100,0 100,100"}, {"0,0 5,0 50,0 100,50 100,95 100,100", 18, "0,0 100,0 100,100"}, {"0,0 9,1 40,13 75,25 60,60 75,25 99,85 100,100", 9, ""}, {"0,0 9,0 40,9 75,25 80,20 75,25 91,60 100,91 100,100", 7, ""}, {"0,0 9,0 40,9 75,25 80,20 75,25 91,60 100,91 100,100", 8, "0,0 100,0 100,100"},
		// Both ends are on one line, or one has no direction.
		{"0,0 5,0 10,0", 1, ""}, {"0,0 5,0 5,5 0,5", 9, ""}, {"0,0 0,0 4,4", 99, ""}, {"0,0 4,0 4,0", 99, ""}, {"0,0 0,0 4,4 9,9", 99, ""}, {"3,3 3,3 3,3", 99, ""}, {"0,0 4,0 0,0", 99, ""},
		// The lines meet behind the first point, and a path back to its beginning is near a single point only.
		{"0,0 9,0 0,-9 -3,-10 -9,-9", 1, ""}, {"5,5 6,5 6,6 5,6 5,5", 2, "5,5 5,5 5,5"}, {"5,5 9,5 9,9 5,9 5,5", 5, ""}, {"5,5 9,5 9,9 5,9 5,5", 6, "5,5 5,5 5,5"}, {"5,5 9,5 5,9 5,5", 3, ""}, {"5,5 9,5 5,9 5,5", 4, "5,5 5,5 5,5"},
		// The lines meet too far away, and a curve is too long.
		{"0,0 262144,1 262144,20 0,20", m, ""}, {"0,0 8192,0 8192,8192", m, "0,0 8192,0 8192,8192"}, {"0,0 8193,0 8192,8192", m, ""}, {"0,0 8192,0 8192,8193", m, ""}, {"-262144,-262144 -253952,-262144 -253952,-253952", 3000, "-262144,-262144 -253952,-262144 -253952,-253952"},
	}
	for _, c := range cases {
		want, due := quad{}, int64(impl.ErrNotFound)
		if c.want != "" {
			want, due = quadOf(points(c.want)...), impl.OK
		}
		got, code := impl.FitQuad(points(c.path), c.tolerance)
		check(t, show("FitQuad", c.path, c.tolerance), show(got, code), show(want, due))
		checkFit(t, points(c.path), c.tolerance)
	}
	long := inLine(impl.MaxRing-1, at(0, 0), at(9, 0))
	long = append(long, at(9*(impl.MaxRing-2), 1))
	check(t, "most points", checkFit(t, long, 5), impl.OK)
	for _, tolerance := range append(badTolerances(), 1, 9) {
		for _, bad := range append(badPaths(), points("0,0"), points("0,0 4,0"), points("0,0 0,0"), append(long, at(9*(impl.MaxRing-1), 9))) {
			got, code := impl.FitQuad(bad, tolerance)
			check(t, show("FitQuad", bad, tolerance), show(got, code), show(quad{}, impl.ErrInvalid))
		}
	}
	for _, tolerance := range badTolerances() {
		for _, path := range [][]pt{points("0,0 4,0 4,4"), points("0,0 4,0 8,0"), points("0,0 8193,0 8193,8193")} {
			got, code := impl.FitQuad(path, tolerance)
			check(t, show("FitQuad", path, tolerance), show(got, code), show(quad{}, impl.ErrRange))
		}
	}
}

// TestFitQuadRandom fits curves that have been flattened, some of which are moved or have fewer points.
func TestFitQuadRandom(t *testing.T) {
	t.Parallel()
	random, found := fixedRandom(), map[int64]int{}
	for range 4000 {
		limit := int64(4) << random.Intn(10)
		q := quadOf(placeIn(random, limit), placeIn(random, limit), placeIn(random, limit))
		path, _ := impl.FlattenQuad(q, 1+random.Int63n(3))
		for range random.Intn(4) {
			if i := random.Intn(len(path)); random.Intn(2) == 0 && len(path) > 3 {
				path = slices.Delete(path, i, i+1)
			} else {
				path[i] = at(path[i].X+random.Int63n(5)-2, path[i].Y+random.Int63n(5)-2)
			}
		}
		if len(path) < 3 {
			continue
		}
		for _, tolerance := range []int64{1, 2, 3, 1 + random.Int63n(9), 1 + random.Int63n(limit)} {
			due := checkFit(t, path, tolerance)
			found[due]++
			if got, code := impl.FitQuad(path, tolerance); code == impl.OK && found[due]%40 == 0 {
				flat, _ := wantedPath(got, 1)
				checkTold(t, path, flat, tolerance)
			}
		}
	}
	if found[impl.OK] < 2000 || found[impl.ErrNotFound] < 2000 {
		t.Errorf("too few paths that are fitted, or not: %v", found)
	}
}

// checkTold holds two paths to be within a distance of each other, by exact distances.
func checkTold(t *testing.T, one, other []pt, distance int64) {
	t.Helper()
	for _, p := range one {
		check(t, show("near the fitted path", p, other, distance), isNearExactly(other, p, distance), true)
	}
	for _, p := range other {
		check(t, show("near the given path", p, one, distance), isNearExactly(one, p, distance), true)
	}
}

// fitting is a fitted loop with what there was on the way around.
type fitting struct {
	loop                              loop
	code                              int64
	corners, curves, straight, single int
	// In a gap, a longer piece is fitted though a shorter one is not.
	gaps int
}

// wantedFitting fits a loop by the words of the document.
func wantedFitting(g ring, tolerance int64) fitting {
	n := len(g.Points)
	point := func(i int) pt { return g.Points[i%n] }
	isEnd := func(i int) bool { return isCornered(point(i+n-1), point(i), point(i+1)) }
	var f fitting
	start := 0
	for i := n - 1; i >= 0; i-- {
		if isEnd(i) {
			start = i
			f.corners++
		}
	}
	for from := start; from < start+n; {
		most := 1
		for from+most < start+n && !isEnd(from+most) {
			most++
		}
		count, knots := f.piece(point, from, most, tolerance)
		f.loop.Knots = append(f.loop.Knots, knots...)
		from += count
	}
	if len(f.loop.Knots) > 60 {
		f.loop, f.code = loop{}, impl.ErrFull
	}
	return f
}

// piece returns for how many points a piece goes on, and its knots.
func (f *fitting) piece(point func(int) pt, from, most int, tolerance int64) (int, []impl.Knot) {
	knots := []impl.Knot{{At: point(from), On: true}}
	isFitted := func(count int) (bool, bool, pt) {
		var way []pt
		for i := range count + 1 {
			way = append(way, point(from+i))
		}
		if areWithin(way, []pt{way[0], way[count]}, tolerance) {
			return true, true, pt{}
		}
		q, code := wantedFit(way, tolerance)
		return code == impl.OK, false, q.B
	}
	for count := most; count >= 2; count-- {
		fits, isStraight, control := isFitted(count)
		if !fits {
			continue
		}
		if count > 3 {
			if shorter, _, _ := isFitted(count - 1); !shorter {
				f.gaps++
			}
		}
		if isStraight {
			f.straight++
		} else {
			f.curves++
			knots = append(knots, impl.Knot{At: control})
		}
		return count, knots
	}
	f.single++
	return 1, knots
}

// closedPath returns the path through the points of a ring back to the first one.
func closedPath(list []pt) []pt { return append(slices.Clone(list), list[0]) }

// flatLoop returns the path of a loop back to its first point, with curves in points.
func flatLoop(t *testing.T, l loop) []pt {
	t.Helper()
	var list []pt
	for _, s := range wantedSegments(l) {
		path := []pt{s.A, s.C}
		if !s.straight {
			flat, code := wantedPath(s.quad, 1)
			check(t, show("code of a fitted curve", s.quad), code, impl.OK)
			path = flat
		}
		list = append(list, path[:len(path)-1]...)
	}
	return closedPath(list)
}

// checkFitRing holds FitRing against the words of the document, and against promise 17: the ring and the loop are within the tolerance of each other.
func checkFitRing(t *testing.T, g ring, tolerance int64) fitting {
	t.Helper()
	want := wantedFitting(g, tolerance)
	got, code := impl.FitRing(g, tolerance)
	check(t, show("FitRing", g, tolerance), show(got, code), show(want.loop, want.code))
	if code != impl.OK {
		return want
	}
	check(t, show("ValidLoop of FitRing", g, tolerance), impl.ValidLoop(got), true)
	flat, around := flatLoop(t, got), closedPath(g.Points)
	check(t, show("the ring and the loop are near each other", g, tolerance), show(areWithin(around, flat, tolerance), areWithin(flat, around, tolerance)), show(true, true))
	for i, p := range g.Points {
		before, behind := neighbours(g.Points, i)
		if isCornered(before, p, behind) && !slices.Contains(got.Knots, impl.Knot{At: p, On: true}) {
			t.Errorf("FitRing %v %d: %v has no knot at the corner %v", g, tolerance, got, p)
		}
	}
	checkFitError(t, region{Rings: []ring{g}}, outline{Loops: []loop{got}}, tolerance)
	return want
}

// checkFitError holds the error of an outline to be at most the tolerance, if the curves have not too many points.
func checkFitError(t *testing.T, r region, o outline, tolerance int64) {
	t.Helper()
	_, due := wantedRegion(o, 1)
	far, code := impl.FitError(r, o)
	if tolerance <= impl.MaxFit || due != impl.OK {
		check(t, show("code of FitError", r, o), code, due)
	}
	if code == impl.OK && far > tolerance {
		t.Errorf("FitError %v %v: got %d, want at most %d", r, o, far, tolerance)
	}
}

func TestFitRing(t *testing.T) {
	t.Parallel()
	const drop = "16,-12 31,-24 45,-32 59,-38 71,-40 81,-38 89,-32 95,-24 99,-12 100,0 99,12 95,24 89,32 81,38 71,40 59,38 45,32 31,24 16,12"
	const wheel = "92,38 71,71 38,92 0,100 -38,92 -71,71 -92,38 -100,0 -92,-38 -71,-71 -38,-92 0,-100 38,-92 71,-71 92,-38"
	cases := []struct {
		text      string
		tolerance int64
		want      string
	}{
		{"5,0 10,0 10,10 0,10 0,0", 1, "10,0 10,10 0,10 0,0"}, {"0,0 10,0 10,10 0,10", 1, "0,0 10,0 10,10 0,10"}, {"0,0 10,0 10,10 0,10", impl.MaxCoord, "0,0 10,0 10,10 0,10"}, {"10,5 10,10 0,10 0,0 10,0", 1, "10,10 0,10 0,0 10,0"}, {"0,5 0,0 10,0 10,10 0,10", 1, "0,0 10,0 10,10 0,10"}, {"0,0 5,0 10,0 10,5 10,10 5,10 0,10 0,5", 1, "0,0 10,0 10,10 0,10"}, {"5,0 10,0 10,5 10,10 5,10 0,10 0,5 0,0", 1, "10,0 10,10 0,10 0,0"},
		// One point, two points, and points without corners since some are equal.
		{"7,7", 1, "7,7"}, {"7,7 7,7", 1, "7,7"}, {"7,7 7,7 7,7 7,7", 1, "7,7"}, {"0,0 9,0", 1, "0,0 9,0"}, {"0,0 1,0", 99, "0,0 1,0"}, {"0,0 0,0 9,0 9,0", 1, "0,0 9,0"}, {"0,0 0,0 9,0 9,0", 9, "0,0"}, {"0,0 0,0 9,0 9,0", 8, "0,0 9,0"}, {"0,0 0,0 9,0 9,0 9,9 9,9", 1, "0,0 9,0 9,9"}, {"0,0 9,0 9,0", 1, "0,0 9,0"}, {"9,0 9,0 0,0", 1, "0,0 9,0"},
		// A line there and back, with the corners at both ends.
		{"4,0 6,0 9,0 6,0 4,0 0,0", 1, "9,0 0,0"}, {"0,0 4,0 9,0 4,0", 1, "0,0 9,0"},
		// A step beside a line that is as far as the tolerance, and one that is farther: the pieces are as long as can be.
		{"0,0 20,1 40,2 60,1 80,0 80,-90 0,-90", 2, "0,0 80,0 80,-90 0,-90"}, {"0,0 20,1 40,3 60,1 80,0 80,-90 0,-90", 2, "0,0 ~47,2 60,1 80,0 80,-90 0,-90"}, {"0,0 20,4 40,6 60,4 80,0 80,-90 0,-90", 2, "0,0 ~40,8 80,0 80,-90 0,-90"}, {"0,0 20,4 40,6 60,4 80,0 80,-90 0,-90", 5, "0,0 ~40,8 80,0 80,-90 0,-90"}, {"0,0 20,4 40,6 60,4 80,0 80,-90 0,-90", 6, "0,0 80,0 80,-90 0,-90"}, {"0,0 20,4 40,6 60,4 80,0 80,-90 0,-90", 1, "0,0 40,6 80,0 80,-90 0,-90"},
		// A drop with one corner, which is also the end, and the same one with this corner elsewhere.
		{"0,0 " + drop, 5, "0,0 ~107,-80 99,12 ~82,64 16,12"}, {drop + " 0,0", 5, "0,0 ~107,-80 99,12 ~82,64 16,12"}, {"0,0 " + drop, 20, "0,0 ~137,-103 95,24 ~72,54"}, {drop + " 0,0", 20, "0,0 ~137,-103 95,24 ~72,54"}, {drop + " 0,0", 90, "0,0 16,12"}, {drop + " 0,0", 200, "0,0"},
		// A ring without corners begins and ends with its first point.
		{"100,0 " + wheel, 5, "100,0 ~76,116 -38,92 ~-135,30 -71,-71 ~30,-135 92,-38"}, {wheel + " 100,0", 5, "92,38 ~30,135 -71,71 ~-135,-30 -38,-92 ~76,-116 100,0"}, {"100,0 " + wheel, 20, "100,0 ~67,159 -71,71 ~-159,-67 0,-100 ~83,-83"}, {"100,0 " + wheel, 2, "100,0 " + wheel}, {wheel + " 100,0", 2, wheel + " 100,0"}, {"100,0 " + wheel, 100, "100,0 -100,0"}, {"100,0 " + wheel, 199, "100,0 92,-38"}, {"100,0 " + wheel, 200, "100,0"}, {wheel + " 100,0", 200, "92,38"},
	}
	for _, c := range cases {
		got, code := impl.FitRing(ringOf(points(c.text)...), c.tolerance)
		check(t, show("FitRing", c.text, c.tolerance), show(got, code), show(loopOf(c.want), impl.OK))
		checkFitRing(t, ringOf(points(c.text)...), c.tolerance)
	}
	for _, tolerance := range badTolerances() {
		for _, g := range []ring{ringOf(at(7, 7)), ringOf(points("0,0 9,0 9,9")...), comb(100, 0, 0)} {
			got, code := impl.FitRing(g, tolerance)
			check(t, show("FitRing", g, tolerance), show(got, code), show(loop{}, impl.ErrRange))
		}
	}
	for _, tolerance := range append(badTolerances(), 1, 7) {
		for _, bad := range badRings() {
			got, code := impl.FitRing(bad, tolerance)
			check(t, show("FitRing", bad, tolerance), show(got, code), show(loop{}, impl.ErrInvalid))
		}
	}
}

// ovalRing returns a ring around an oval; with 20 points or more it mostly has no corners.
func ovalRing(random *rand.Rand, n int) ring {
	width, height, from := 3+float64(random.Intn(1<<(3+random.Intn(8)))), 0.5+random.Float64()/2, 7*random.Float64()
	var g ring
	for i := range n {
		angle := from + 2*math.Pi*float64(i)/float64(n)
		g.Points = append(g.Points, at(int64(math.Round(width*math.Cos(angle))), int64(math.Round(width*height*math.Sin(angle)))))
	}
	return g
}

// wanderingRing returns a ring that turns by less than a corner at each point but where it is closed.
func wanderingRing(random *rand.Rand, n int) ring {
	step, most, bias := float64(2+random.Intn(60)), 0.45*random.Float64(), 0.2*random.Float64()
	x, y, angle := 0.0, 0.0, 7*random.Float64()
	var g ring
	for range n {
		angle += most*(2*random.Float64()-1) + bias
		x, y = x+step*math.Cos(angle), y+step*math.Sin(angle)
		g.Points = append(g.Points, at(int64(math.Round(x)), int64(math.Round(y))))
	}
	return g
}

// curvedRing returns a ring of straight and curved ways with many points.
func curvedRing(random *rand.Rand) ring {
	limit := int64(8) << random.Intn(10)
	l := loop{Knots: []impl.Knot{{At: placeIn(random, limit), On: true}}}
	for range random.Intn(7) {
		l.Knots = append(l.Knots, impl.Knot{At: placeIn(random, limit), On: random.Intn(3) == 0})
	}
	var g ring
	for _, s := range wantedSegments(l) {
		path, _ := wantedPath(s.quad, 1+random.Int63n(9))
		if s.straight {
			path = nil
			for k := range int64(6) {
				path = append(path, partWay(s.A, s.C, ratio(k, 5)).rounded())
			}
		}
		g.Points = append(g.Points, path[:len(path)-1]...)
	}
	return g
}

// shakenRing returns a ring of which some points are moved by a little, are twice there, or are gone.
func shakenRing(random *rand.Rand, g ring) ring {
	shaken := ringOf(slices.Clone(g.Points)...)
	for range random.Intn(5) {
		i := random.Intn(len(shaken.Points))
		p := shaken.Points[i]
		switch random.Intn(6) {
		case 0:
			shaken.Points = slices.Insert(shaken.Points, i, p)
		case 1:
			if len(shaken.Points) > 1 {
				shaken.Points = slices.Delete(shaken.Points, i, i+1)
			}
		default:
			shaken.Points[i] = at(p.X+random.Int63n(7)-3, p.Y+random.Int63n(7)-3)
		}
	}
	return shaken
}

// fittedRing returns a ring of any kind that can be fitted.
func fittedRing(random *rand.Rand) ring {
	switch random.Intn(6) {
	case 0:
		return ovalRing(random, 5+random.Intn(70))
	case 1:
		return shakenRing(random, ovalRing(random, 20+random.Intn(40)))
	case 2:
		return wanderingRing(random, 3+random.Intn(50))
	case 3:
		return randomRing(random)
	default:
		return shakenRing(random, curvedRing(random))
	}
}

// someTolerance returns a tolerance, most of the time a small one.
func someTolerance(random *rand.Rand) int64 {
	if random.Intn(5) == 0 {
		return 1 + random.Int63n(1<<(3+random.Intn(8)))
	}
	return 1 + random.Int63n(9)
}

func TestFitRingsRandom(t *testing.T) {
	t.Parallel()
	random, all, codes, corners := fixedRandom(), fitting{}, map[int64]int{}, map[int]int{}
	for i := range 1500 {
		g, tolerance := fittedRing(random), someTolerance(random)
		f := checkFitRing(t, g, tolerance)
		codes[f.code]++
		corners[min(f.corners, 3)]++
		all.curves, all.straight, all.single, all.gaps = all.curves+f.curves, all.straight+f.straight, all.single+f.single, all.gaps+f.gaps
		if f.code == impl.OK && i%50 == 0 && len(g.Points) < 60 {
			checkTold(t, closedPath(g.Points), flatLoop(t, f.loop), tolerance)
		}
	}
	if all.curves < 1000 || all.straight < 1000 || all.single < 1000 || all.gaps < 300 || codes[impl.OK] < 1000 || codes[impl.ErrFull] < 5 {
		t.Errorf("too few pieces of a kind: %+v %v", all, codes)
	}
	for n := range 4 {
		if corners[n] < 50 {
			t.Errorf("too few rings with a number of corners: %v", corners)
		}
	}
}

// TestFitRingsSmall fits all rings of up to four points of a small grid.
func TestFitRingsSmall(t *testing.T) {
	t.Parallel()
	grid, knots := gridPts(0, 2), map[int]int{}
	try := func(list ...pt) {
		for _, tolerance := range []int64{1, 2, 3} {
			knots[len(checkFitRing(t, ringOf(list...), tolerance).loop.Knots)]++
		}
	}
	for _, a := range grid {
		try(a)
		for _, b := range grid {
			try(a, b)
			for _, c := range grid {
				try(a, b, c)
				if a.X == 1 || b.Y == 0 {
					try(a, b, c, at(c.Y, a.X))
				}
			}
		}
	}
	for n := 1; n <= 4; n++ {
		if knots[n] < 30 {
			t.Errorf("too few loops with a number of knots: %v", knots)
		}
	}
}

// TestFitRingsTurned is about where a ring begins: with corners the knots do not depend on it, and without corners the first point is the first knot.
func TestFitRingsTurned(t *testing.T) {
	t.Parallel()
	random, with, without := fixedRandom(), 0, 0
	for range 400 {
		g, tolerance := fittedRing(random), someTolerance(random)
		f := checkFitRing(t, g, tolerance)
		if f.code != impl.OK {
			continue
		}
		n := random.Intn(len(g.Points))
		turned := ringOf(slices.Concat(g.Points[n:], g.Points[:n])...)
		got := checkFitRing(t, turned, tolerance).loop.Knots
		if f.corners == 0 {
			without++
			check(t, show("first knot", turned), got[0].At, turned.Points[0])
			continue
		}
		with++
		isSame := false
		for k := range f.loop.Knots {
			isSame = isSame || slices.Equal(slices.Concat(f.loop.Knots[k:], f.loop.Knots[:k]), got)
		}
		check(t, show("the same knots", g, n, tolerance), isSame, true)
	}
	if with < 100 || without < 50 {
		t.Errorf("too few rings with and without corners: %d and %d", with, without)
	}
}

// TestFitRingsMoved holds a ring elsewhere to have the same loop elsewhere.
func TestFitRingsMoved(t *testing.T) {
	t.Parallel()
	random, found := fixedRandom(), map[int64]int{}
	for range 400 {
		g, tolerance, by := fittedRing(random), someTolerance(random), placeIn(random, 1000)
		low, high := wantedBounds(g.Points)
		if max(-low.X, -low.Y, high.X, high.Y) > 200000 {
			continue
		}
		moved := ringOf(slices.Clone(g.Points)...)
		for i, p := range g.Points {
			moved.Points[i] = at(p.X+by.X, p.Y+by.Y)
		}
		want, due := impl.FitRing(g, tolerance)
		got, code := impl.FitRing(moved, tolerance)
		for i := range got.Knots {
			got.Knots[i].At = apart(got.Knots[i].At, by)
		}
		check(t, show("a ring that is moved", g, by, tolerance), show(got, code), show(want, due))
		found[code]++
	}
	if found[impl.OK] < 200 {
		t.Errorf("too few rings that can be fitted: %v", found)
	}
}

// TestFitRingsWithoutCorners is about rings that are as one way from the first point back to it.
func TestFitRingsWithoutCorners(t *testing.T) {
	t.Parallel()
	random := fixedRandom()
	for _, n := range []int{20, 60, 120, impl.MaxRing - 1, impl.MaxRing} {
		var g ring
		for i := range n {
			angle := 2 * math.Pi * float64(i) / float64(n)
			g.Points = append(g.Points, at(int64(math.Round(20000*math.Cos(angle))), int64(math.Round(20000*math.Sin(angle)))))
		}
		for _, tolerance := range []int64{30, 64, 500, 3000, 39000, 39999, 40000, impl.MaxCoord} {
			f := checkFitRing(t, g, tolerance)
			check(t, show("corners and code", n, tolerance), show(f.corners, f.code), show(0, impl.OK))
			check(t, show("all points are near the first one", n, tolerance), len(f.loop.Knots) == 1, tolerance >= 40000)
			check(t, show("first knot", n, tolerance), f.loop.Knots[0], impl.Knot{At: at(20000, 0), On: true})
		}
		first, _ := impl.FitRing(g, 64)
		n := random.Intn(n)
		g.Points = slices.Concat(g.Points[n:], g.Points[:n])
		f := checkFitRing(t, g, 64)
		check(t, show("first knot of another first point", n), f.loop.Knots[0].At, g.Points[0])
		check(t, show("knots", n), len(f.loop.Knots) > 4 && len(first.Knots) > 4, true)
	}
	few := 0
	for range 150 {
		g, far := ovalRing(random, 25+random.Intn(30)), int64(0)
		for _, p := range g.Points {
			for impl.DistSq(g.Points[0], p) > far*far {
				far++
			}
		}
		f := checkFitRing(t, g, 1+random.Int63n(4))
		if f.corners > 0 {
			continue
		}
		few++
		check(t, show("all points are near the first one", g, far), len(checkFitRing(t, g, far).loop.Knots), 1)
		check(t, show("a point is not", g, far), len(checkFitRing(t, g, far-1).loop.Knots) > 1, true)
	}
	if few < 30 {
		t.Errorf("only %d rings have no corners", few)
	}
	// As many points as may be: all equal, without corners but at the ends of a line there and back, and with one corner.
	for _, g := range []ring{ringOf(make([]pt, impl.MaxRing)...), ringOf(ringPts()...), wanderingRing(random, impl.MaxRing), wanderingRing(random, impl.MaxRing), ringOf(append(inLine(200, at(0, 0), at(3, 1)), inLine(200, at(600, 200), at(-3, -1))...)...)} {
		for _, tolerance := range []int64{1, 3, 64, 2000, impl.MaxCoord} {
			checkFitRing(t, g, tolerance)
		}
	}
	drop := ringOf(at(0, 0))
	for i := range impl.MaxRing - 1 {
		angle := math.Pi * (float64(i+1)/impl.MaxRing - 0.5)
		drop.Points = append(drop.Points, at(int64(math.Round(9000*math.Cos(angle))), int64(math.Round(4000*math.Sin(2*angle)))))
	}
	for _, tolerance := range []int64{2, 5, 20, 4000, 8000, 8999, 9500} {
		f := checkFitRing(t, drop, tolerance)
		check(t, show("corners, code, first point and last piece", tolerance), show(f.corners, f.code, f.loop.Knots[0].At, len(f.loop.Knots) == 1), show(1, impl.OK, at(0, 0), tolerance > 9000))
	}
}

// bows returns a ring with a number of bows beside each other, and corners on the way back.
func bows(count int64, back ...pt) ring {
	var g ring
	for k := range count {
		path, _ := impl.FlattenQuad(quadOf(at(400*k, 0), at(400*k+200, 160), at(400*k+400, 0)), 2)
		g.Points = append(g.Points, path[:len(path)-1]...)
	}
	return ringOf(slices.Concat(g.Points, []pt{at(400*count, 0)}, back)...)
}

// TestFitRingLimits is about the number of knots.
func TestFitRingLimits(t *testing.T) {
	t.Parallel()
	// The last piece of a ring with straight sides is a bow.
	bowed := func(n int) ring {
		g := comb(n, 0, 0)
		g.Points = g.Points[:n-2]
		last := g.Points[n-3]
		path, _ := impl.FlattenQuad(quadOf(last, at(last.X/2, -100), at(0, 0)), 1)
		return ringOf(append(g.Points, path[1:len(path)-1]...)...)
	}
	cases := []struct {
		what             string
		g                ring
		tolerance, knots int64
		code             int64
	}{
		{"corners", comb(60, 0, 0), 1, 60, impl.OK}, {"one corner more", comb(61, 0, 0), 1, 0, impl.ErrFull}, {"many corners", comb(400, 0, 0), 1, 0, impl.ErrFull}, {"bows and two corners", bows(29, at(5800, -5000)), 12, 60, impl.OK}, {"bows and three corners", bows(29, at(5800, -5000), at(0, -5000)), 12, 0, impl.ErrFull}, {"one bow more", bows(30), 12, 0, impl.ErrFull}, {"bows and one corner", bows(29), 12, 59, impl.OK},
		{"a last bow", bowed(60), 12, 59, impl.OK}, {"a last bow after one corner more", bowed(61), 12, 60, impl.OK}, {"a last bow after too many corners", bowed(62), 12, 0, impl.ErrFull},
	}
	for _, c := range cases {
		f := checkFitRing(t, c.g, c.tolerance)
		check(t, c.what+": code and knots", show(f.code, len(f.loop.Knots)), show(c.code, c.knots))
	}
	// Without corners, the tolerance decides how many knots there are.
	found := map[int]int64{}
	for radius := int64(300); radius < 3300; radius += 60 {
		var g ring
		for i := range 300 {
			angle := math.Pi * float64(i) / 150
			g.Points = append(g.Points, at(int64(math.Round(float64(radius)*math.Cos(angle))), int64(math.Round(float64(radius)*math.Sin(angle)))))
		}
		l, code := impl.FitRing(g, 1)
		found[len(l.Knots)] = code
	}
	check(t, "code without knots", found[0], impl.ErrFull)
	if len(found) < 10 {
		t.Errorf("too few numbers of knots: %v", found)
	}
	for n, code := range found {
		check(t, show("code", n), code == impl.OK, n > 0 && n <= impl.MaxKnots)
	}
}

// wantedRegionFit returns the outline of a valid region by the words of the document.
func wantedRegionFit(r region, tolerance int64) (outline, int64) {
	var o outline
	for _, g := range r.Rings {
		f := wantedFitting(g, tolerance)
		if f.code != impl.OK {
			return outline{}, f.code
		}
		o.Loops = append(o.Loops, f.loop)
	}
	if len(o.Loops) > 12 {
		return outline{}, impl.ErrFull
	}
	return o, impl.OK
}

// checkFitRegion holds FitRegion against the words of the document, and its outline to be within the tolerance.
func checkFitRegion(t *testing.T, r region, tolerance int64) int64 {
	t.Helper()
	want, due := wantedRegionFit(r, tolerance)
	got, code := impl.FitRegion(r, tolerance)
	check(t, show("FitRegion", r, tolerance), show(got, code), show(want, due))
	if code == impl.OK {
		check(t, show("ValidOutline", r, tolerance), impl.ValidOutline(got), true)
		checkFitError(t, r, got, tolerance)
	}
	return code
}

func TestFitRegion(t *testing.T) {
	t.Parallel()
	cases := []struct {
		lines     string
		tolerance int64
		want      []string
	}{
		{"", 1, nil}, {"5,0 10,0 10,10 0,10 0,0", 1, []string{"10,0 10,10 0,10 0,0"}}, {"9,9;0,0 4,0;7,7 7,7", 1, []string{"9,9", "0,0 4,0", "7,7"}}, {"7,7 7,7;0,0 4,0;9,9", 1, []string{"7,7", "0,0 4,0", "9,9"}}, {"3,3;3,3", 1, []string{"3,3", "3,3"}}, {"0,0 20,4 40,6 60,4 80,0 80,-90 0,-90;9,9 5,9 9,9", 2, []string{"0,0 ~40,8 80,0 80,-90 0,-90", "5,9 9,9"}},
	}
	for _, c := range cases {
		got, code := impl.FitRegion(linesOf(c.lines), c.tolerance)
		check(t, show("FitRegion", c.lines, c.tolerance), show(got, code), show(outlineOf(c.want...), impl.OK))
		checkFitRegion(t, linesOf(c.lines), c.tolerance)
	}
	full := comb(61, 0, 0)
	limits := []struct {
		r    region
		code int64
	}{
		{sameRings(12, "0,0 4,0 4,4"), impl.OK}, {sameRings(13, "0,0 4,0 4,4"), impl.ErrFull}, {sameRings(12, "0,0"), impl.OK}, {sameRings(13, "0,0"), impl.ErrFull}, {sameRings(40, repeated("0,0", "0,0", 400)), impl.ErrFull}, {sameRings(12, repeated("0,0", "0,0", 400)), impl.OK}, {region{Rings: []ring{full}}, impl.ErrFull}, {with(regionOf("0,0", "0,0 4,0 4,4"), full), impl.ErrFull}, {region{Rings: []ring{full, ringOf(at(0, 0))}}, impl.ErrFull}, {region{Rings: []ring{comb(60, 0, 0), comb(60, 0, 99), comb(60, 0, 200)}}, impl.OK}, {with(sameRings(12, "0,0"), full), impl.ErrFull},
	}
	for _, c := range limits {
		check(t, show("code of FitRegion", c.r), checkFitRegion(t, c.r, 1), c.code)
	}
	for _, r := range goodRegions() {
		checkFitRegion(t, r, 3)
		for _, tolerance := range badTolerances() {
			got, code := impl.FitRegion(r, tolerance)
			check(t, show("FitRegion", r, tolerance), show(got, code), show(outline{}, impl.ErrRange))
		}
	}
	for _, bad := range badRegions() {
		for _, tolerance := range append(badTolerances(), 1, 20) {
			got, code := impl.FitRegion(bad, tolerance)
			check(t, show("FitRegion", bad, tolerance), show(got, code), show(outline{}, impl.ErrInvalid))
		}
	}
}

// TestFitRegionsRandom fits what outlines and strokes cover.
func TestFitRegionsRandom(t *testing.T) {
	t.Parallel()
	random, found := fixedRandom(), map[int64]int{}
	for range 250 {
		var r region
		for range 1 + random.Intn(4) {
			r.Rings = append(r.Rings, fittedRing(random))
		}
		if random.Intn(3) == 0 {
			path, _ := impl.FlattenCubic(cubicOf(manyPts(random, 4, 300)...), 1+random.Int63n(4))
			pen, _ := impl.OvalPen(5+random.Int63n(90), 5+random.Int63n(90))
			r, _ = impl.StrokeOf(pen, path, false)
		}
		if random.Intn(6) == 0 {
			r = with(r, comb(61+random.Intn(9), 0, 0))
		}
		if regionIsValid(r) {
			found[checkFitRegion(t, r, someTolerance(random))]++
		}
	}
	if found[impl.OK] < 100 || found[impl.ErrFull] < 20 {
		t.Errorf("too few regions that can be fitted, or cannot: %v", found)
	}
}

// wantedFar returns the distance of an outline from a region by the words of the document; both are valid and have as many rings as loops.
func wantedFar(r region, o outline) (int64, int64) {
	flat, code := wantedRegion(o, 1)
	if code != impl.OK {
		return 0, code
	}
	for distance := range int64(65) {
		isFar := false
		for i, g := range r.Rings {
			one, other := closedPath(g.Points), closedPath(flat.Rings[i].Points)
			isFar = isFar || !areWithin(one, other, distance) || !areWithin(other, one, distance)
		}
		if !isFar {
			return distance, impl.OK
		}
	}
	return 0, impl.ErrRange
}

func checkFar(t *testing.T, r region, o outline) (int64, int64) {
	t.Helper()
	want, due := wantedFar(r, o)
	got, code := impl.FitError(r, o)
	check(t, show("FitError", r, o), show(got, code), show(want, due))
	return got, code
}

func TestFitError(t *testing.T) {
	cases := []struct {
		lines string
		loops []string
		want  int64
		code  int64
	}{
		{"", nil, 0, impl.OK}, {"0,0", []string{"0,0"}, 0, impl.OK}, {"0,0", []string{"3,4"}, 5, impl.OK}, {"0,0", []string{"3,5"}, 6, impl.OK}, {"0,0", []string{"0,1"}, 1, impl.OK}, {"0,0", []string{"64,0"}, 64, impl.OK}, {"0,0", []string{"0,-65"}, 0, impl.ErrRange}, {"0,0", []string{"63,9"}, 64, impl.OK}, {"0,0", []string{"63,12"}, 0, impl.ErrRange}, {"0,0", []string{"262144,-262144"}, 0, impl.ErrRange},
		{"0,0 100,0 100,100 0,100", []string{"0,0 100,0 100,100 0,100"}, 0, impl.OK}, {"0,0 100,0 100,100 0,100", []string{"100,100 0,100 0,0 100,0"}, 0, impl.OK}, {"0,0 100,0 100,100 0,100", []string{"0,0 0,100 50,100 100,100 100,0"}, 0, impl.OK}, {"0,0 100,0 100,100 0,100", []string{"10,10 90,10 90,90 10,90"}, 15, impl.OK}, {"10,10 90,10 90,90 10,90", []string{"0,0 100,0 100,100 0,100"}, 15, impl.OK}, {"0,0 100,0 100,100 0,100", []string{"9,0 109,0 109,100 9,100"}, 9, impl.OK},
		// A point of one that is far from the other one.
		{"0,0 50,30 100,0", []string{"0,0 100,0"}, 30, impl.OK}, {"0,0 100,0", []string{"0,0 50,30 100,0"}, 30, impl.OK}, {"0,0 50,65 100,0", []string{"0,0 100,0"}, 0, impl.ErrRange}, {"0,0 100,0", []string{"0,0 50,65 100,0"}, 0, impl.ErrRange}, {"0,0 100,0 40,0", []string{"0,0 40,0"}, 60, impl.OK}, {"0,0 40,0", []string{"0,0 100,0"}, 60, impl.OK},
		// The way back to the first point counts on both sides.
		{"0,0 100,0 100,100", []string{"0,0 100,0 100,100 50,50"}, 0, impl.OK}, {"0,0 100,0 100,100 50,50", []string{"0,0 100,0 100,100"}, 0, impl.OK}, {"0,0 900,0 900,900", []string{"0,0 900,0 900,900 450,450"}, 0, impl.OK}, {"0,0 900,0 900,900 450,450", []string{"0,0 900,0 900,900"}, 0, impl.OK},
		// Rings are compared with the loops of the same index, and the greatest distance counts.
		{"0,0;50,0", []string{"0,0", "50,0"}, 0, impl.OK}, {"0,0;50,0", []string{"50,0", "0,0"}, 50, impl.OK}, {"0,0;50,0", []string{"3,0", "50,7"}, 7, impl.OK}, {"0,0;50,0", []string{"0,7", "50,3"}, 7, impl.OK}, {"0,0;50,0;9,9", []string{"0,0", "50,0", "9,19"}, 10, impl.OK}, {"0,0;50,0;9,9", []string{"0,0", "50,65", "9,9"}, 0, impl.ErrRange}, {"0,0;50,0;9,9", []string{"0,65", "50,0", "9,9"}, 0, impl.ErrRange},
		// Curves are flattened with the tolerance 1.
		{"0,0 40,0 40,40", []string{"0,0 ~40,0 40,40"}, 15, impl.OK}, {"0,0 8,8 6,2", []string{"0,0 8,8 ~8,0"}, 0, impl.OK}, {"0,0 2,0", []string{"0,0 ~4,0"}, 0, impl.OK}, {"0,0 1,0", []string{"0,0 ~4,0"}, 1, impl.OK}, {"8,4", []string{"8,4 ~8,8 0,0 ~8,0"}, 9, impl.OK}, {"0,0", []string{"0,0 ~8192,0"}, 0, impl.ErrRange},
		// An outline with too many points.
		{"0,0", []string{"0,0 ~262144,0"}, 0, impl.ErrFull}, {"0,0", []string{"0,0 ~8193,0"}, 0, impl.ErrFull}, {"0,0;1,1", []string{"0,0", "0,0 1,1 ~9000,0"}, 0, impl.ErrFull}, {"900,900;1,1", []string{"0,0", "0,0 1,1 ~9000,0"}, 0, impl.ErrFull},
	}
	for _, c := range cases {
		got, code := impl.FitError(linesOf(c.lines), outlineOf(c.loops...))
		check(t, show("FitError", c.lines, c.loops), show(got, code), show(c.want, c.code))
		checkFar(t, linesOf(c.lines), outlineOf(c.loops...))
	}
	good, line := regionOf("0,0 4,0 4,4"), outlineOf("0,0 4,0 4,4")
	for _, bad := range badRegions() {
		for _, o := range []outline{line, {}, outlineOf(slices.Repeat([]string{"0,0"}, min(len(bad.Rings), 12))...), outlineOf("0,0 ~262144,0")} {
			got, code := impl.FitError(bad, o)
			check(t, show("FitError", bad, o), show(got, code), show(0, impl.ErrInvalid))
		}
	}
	for _, bad := range badOutlines() {
		for _, r := range []region{good, {}, sameRings(min(len(bad.Loops), 40), "0,0")} {
			got, code := impl.FitError(r, bad)
			check(t, show("FitError", r, bad), show(got, code), show(0, impl.ErrInvalid))
		}
	}
	others := []struct {
		r region
		o outline
	}{
		{good, outline{}}, {region{}, line}, {good, outlineOf("0,0 4,0 4,4", "0,0 4,0 4,4")}, {sameRings(2, "0,0"), outlineOf("0,0")}, {good, outlineOf("0,0 ~262144,0", "0,0")}, {region{}, outlineOf("0,0 ~262144,0")}, {sameRings(13, "0,0"), outlineOf(slices.Repeat([]string{"0,0"}, 12)...)}, {sameRings(11, "0,0"), outlineOf(slices.Repeat([]string{"0,0"}, 12)...)},
	}
	for _, c := range others {
		got, code := impl.FitError(c.r, c.o)
		check(t, show("not as many rings as loops", c.r, c.o), show(got, code), show(0, impl.ErrInvalid))
	}
}

// TestFitErrorLimits is about rings of as many points as may be, with which the way back has one point more.
func TestFitErrorLimits(t *testing.T) {
	row := append(inLine(399, at(0, 0), at(1, 0)), at(398, 200))
	far, code := checkFar(t, region{Rings: []ring{ringOf(row...)}}, outlineOf("0,0 398,0 398,200 199,100"))
	check(t, "a ring of most points", show(far, code), show(0, impl.OK))
	far, code = checkFar(t, region{Rings: []ring{ringOf(row...)}}, outlineOf("0,0 398,0 398,200 190,100"))
	check(t, "a loop that is not on it", show(far, code), show(5, impl.OK))
	full := outlineOf(repeated("0,0", "~8192,0 0,0", 7) + repeated(" 0,9", "5,5 0,9", 8))
	flat, code := impl.FlattenOutline(full, 1)
	check(t, "points of a full outline", show(len(pointsOf(flat)[0]), code), show(400, impl.OK))
	far, code = checkFar(t, flat, full)
	check(t, "a full outline", show(far, code), show(0, impl.OK))
	for _, g := range []ring{ringOf(ringPts()...), ringOf(make([]pt, impl.MaxRing)...), comb(400, 0, 0)} {
		low, high := wantedBounds(g.Points)
		checkFar(t, region{Rings: []ring{g}}, outline{Loops: []loop{{Knots: []impl.Knot{{At: low, On: true}, {At: at(high.X, low.Y), On: true}, {At: high, On: true}}}}})
	}
}

func TestFitErrorsRandom(t *testing.T) {
	t.Parallel()
	random, found, codes := fixedRandom(), map[int64]int{}, map[int64]int{}
	for range 800 {
		var r region
		var o outline
		for range 1 + random.Intn(3) {
			g := fittedRing(random)
			l, code := impl.FitRing(g, someTolerance(random))
			if code != impl.OK {
				l = loopOf("0,0 ~9,9 20,0")
			}
			if random.Intn(12) == 0 {
				l = randomLoop(random)
			}
			for range random.Intn(3) {
				k := &l.Knots[random.Intn(len(l.Knots))]
				k.At = at(k.At.X+random.Int63n(41)-20, k.At.Y+random.Int63n(41)-20)
			}
			r.Rings, o.Loops = append(r.Rings, g), append(o.Loops, l)
		}
		if !regionIsValid(r) || !outlineIsValid(o) {
			continue
		}
		far, code := checkFar(t, r, o)
		found[far/8]++
		codes[code]++
		// What an outline is flattened to is not away from it.
		flat, code := impl.FlattenOutline(o, 1)
		if code == impl.OK {
			far, code = checkFar(t, flat, o)
			check(t, show("an outline and its points", o), show(far, code), show(0, impl.OK))
		}
	}
	if codes[impl.OK] < 300 || codes[impl.ErrRange] < 50 || codes[impl.ErrFull] < 2 || len(found) < 6 {
		t.Errorf("too few distances: %v %v", found, codes)
	}
}

// fitArguments are the arguments of all functions of chapter 16.
type fitArguments struct {
	a, b, c, d          pt
	path, other         []pt
	g                   ring
	r                   region
	o                   outline
	tolerance, distance int64
}

// fitResults are what these functions return.
type fitResults struct {
	corner, near, within bool
	meeting              pt
	quad                 quad
	loop                 loop
	outline              outline
	far                  int64
	codes                []int64
}

func fitResultsOf(a fitArguments) fitResults {
	s := fitResults{codes: make([]int64, 5)}
	s.corner, s.near, s.within = impl.IsCorner(a.a, a.b, a.c), impl.NearPath(a.path, a.a, a.distance), impl.PathWithin(a.path, a.other, a.distance)
	s.meeting, s.codes[0] = impl.LinesMeet(a.a, a.b, a.c, a.d)
	s.quad, s.codes[1] = impl.FitQuad(a.path, a.tolerance)
	s.loop, s.codes[2] = impl.FitRing(a.g, a.tolerance)
	s.outline, s.codes[3] = impl.FitRegion(a.r, a.tolerance)
	s.far, s.codes[4] = impl.FitError(a.r, a.o)
	return s
}

// checkZero holds everything that comes with an error to be 0.
func (s fitResults) checkZero(t *testing.T) {
	t.Helper()
	zero := []bool{s.meeting == pt{}, s.quad == quad{}, len(s.loop.Knots) == 0, len(s.outline.Loops) == 0, s.far == 0}
	for i, code := range s.codes {
		if code != impl.OK && !zero[i] {
			t.Errorf("result %d is not 0 though the code is %d: %+v", i, code, s)
		}
	}
}

// overwriteResults sets all memory of the results, loop by loop, and holds the others to stay as they are.
func (s fitResults) overwriteResults(t *testing.T) {
	t.Helper()
	overwrite(s.loop.Knots, impl.Knot{At: at(55, 55)})
	for i, l := range s.outline.Loops {
		before := show(s.outline.Loops[i+1:])
		overwrite(l.Knots, impl.Knot{At: at(55, 55)})
		check(t, "later loops", show(s.outline.Loops[i+1:]), before)
	}
	overwrite(s.outline.Loops, loop{})
}

// randomFitArguments returns arguments of any kind; most of them are valid.
func randomFitArguments(random *rand.Rand, numbers []int64, regions []region, outlines []outline) fitArguments {
	a := fitArguments{a: placeIn(random, 9), b: placeIn(random, 9), c: placeIn(random, 9), d: placeIn(random, 9), path: manyPts(random, 1+random.Intn(5), 9), other: manyPts(random, 1+random.Intn(5), 9), g: fittedRing(random), tolerance: someTolerance(random), distance: random.Int63n(12)}
	a.r = region{Rings: []ring{a.g, fittedRing(random)}}
	a.o, _ = impl.FitRegion(a.r, a.tolerance)
	odd := at(pick(random, numbers), pick(random, numbers))
	switch random.Intn(12) {
	case 0:
		a.a, a.d = odd, at(odd.Y, odd.X)
	case 1:
		a.b = odd
	case 2:
		a.path[random.Intn(len(a.path))] = odd
	case 3:
		a.other = pick(random, badPaths())
	case 4:
		a.path = pick(random, badPaths())
	case 5:
		a.g = pick(random, badRings())
	case 6:
		a.r = pick(random, regions)
	case 7:
		a.o = pick(random, outlines)
	case 8:
		a.tolerance, a.distance = odd.X, odd.Y
	}
	a.path, a.other, a.g = roomySlice(a.path, at(77, 77)), roomySlice(a.other, at(77, 77)), ringOf(roomySlice(a.g.Points, at(77, 77))...)
	a.r, a.o = roomyRegion(a.r), roomyOutline(a.o)
	return a
}

// TestFittingTotal is promise 1 for chapter 16: all functions return for all arguments, twice alike, in new memory, and keep their arguments.
func TestFittingTotal(t *testing.T) {
	t.Parallel()
	random, numbers, goods := fixedRandom(), extremeNumbers(), map[int]int{}
	regions, outlines := append(badRegions(), goodRegions()...), append(badOutlines(), goodOutlines()...)
	for range 700 {
		a := randomFitArguments(random, numbers, regions, outlines)
		memory := func() string {
			return show(a.path[:cap(a.path)], a.other[:cap(a.other)], a.g.Points[:cap(a.g.Points)], regionMemory(a.r), outlineMemory(a.o))
		}
		before := memory()
		first := fitResultsOf(a)
		first.checkZero(t)
		for i, code := range first.codes {
			if code == impl.OK {
				goods[i]++
			}
		}
		shown := show(first)
		check(t, "arguments after all calls", memory(), before)
		first.overwriteResults(t)
		check(t, "arguments after results are overwritten", memory(), before)
		if shown != show(fitResultsOf(a)) {
			t.Fatal("equal arguments have different results: ", a)
		}
	}
	for i := range 5 {
		if goods[i] < 50 {
			t.Errorf("too few results without an error: %v", goods)
		}
	}
}
