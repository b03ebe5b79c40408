package tests

import (
	"math/rand"
	"runtime"
	"slices"
	"testing"
	"time"

	"loop.example/g00883/impl"
)

// legsOf returns the legs of a path by the words of the document.
func legsOf(path []pt, closed bool) [][2]pt {
	var legs [][2]pt
	for i, p := range path {
		switch {
		case i+1 < len(path):
			legs = append(legs, [2]pt{p, path[i+1]})
		case len(path) == 1 || closed && len(path) > 2:
			legs = append(legs, [2]pt{p, path[0]})
		}
	}
	return legs
}

// wantedSweep returns the hull of all sums.
func wantedSweep(pen []pt, a, b pt) (ring, int64) {
	hull := ringOf(wantedHull(allSums(pen, []pt{a, b}))...)
	if !ringIsValid(hull) {
		return ring{}, impl.ErrRange
	}
	return hull, impl.OK
}

// wantedRaw returns the sweeps of all legs.
func wantedRaw(pen, path []pt, closed bool) (region, int64) {
	var r region
	for _, leg := range legsOf(path, closed) {
		g, code := wantedSweep(pen, leg[0], leg[1])
		if code != impl.OK {
			return region{}, code
		}
		r.Rings = append(r.Rings, g)
	}
	if !regionIsValid(r) {
		return region{}, impl.ErrFull
	}
	return r, impl.OK
}

// wantedStroke returns the union of the sweeps of all legs.
func wantedStroke(pen, path []pt, closed bool) (region, int64) {
	raw, code := wantedRaw(pen, path, closed)
	if code != impl.OK {
		return region{}, code
	}
	return wantedCombination(raw, region{}, impl.BoUnion)
}

func grown(p pt, k int64) pt { return at(k*p.X, k*p.Y) }

// isPassedOn reports whether a pen passes over q / k while it moves from a to b: seen from the pen, whether this point, which moves the other way, is in the pen at first or meets a side of it.
func isPassedOn(pen []pt, a, b, q pt, k int64) bool {
	from, to := apart(q, grown(a, k)), apart(q, grown(b, k))
	inside := len(pen) > 2
	for i, p := range pen {
		corner, next := grown(p, k), grown(pen[(i+1)%len(pen)], k)
		if leftOf(corner, next, from) < 0 {
			inside = false
		}
		if kind, _ := exactMeeting(corner, next, from, to); kind != impl.MtNone {
			return true
		}
	}
	return inside
}

// isPassed reports whether a pen passes over q / k while it moves along a path.
func isPassed(pen, path []pt, closed bool, q pt, k int64) bool {
	for _, leg := range legsOf(path, closed) {
		if isPassedOn(pen, leg[0], leg[1], q, k) {
			return true
		}
	}
	return false
}

// badPaths returns lists that are not paths, for each reason.
func badPaths() [][]pt {
	list := [][]pt{nil, {}, make([]pt, impl.MaxRing+1), make([]pt, 100000)}
	for _, bad := range badPts() {
		list = append(list, []pt{bad}, []pt{at(0, 0), bad}, []pt{bad, at(0, 0)}, []pt{at(0, 0), at(4, 0), bad}, append(make([]pt, impl.MaxRing-1), bad))
	}
	return list
}

// randomWay returns a path of a few points, which often turns back or stays where it is.
func randomWay(random *rand.Rand, limit int64) []pt {
	path := []pt{placeIn(random, limit)}
	for range random.Intn(3) * random.Intn(4) {
		next := placeIn(random, limit)
		switch random.Intn(6) {
		case 0:
			next = pick(random, path)
		case 1:
			next = at(path[len(path)-1].X, next.Y)
		}
		path = append(path, next)
	}
	return path
}

// randomStroke returns a pen and a path of any size, of which some lead out of the valid points.
func randomStroke(random *rand.Rand) ([]pt, []pt) {
	switch random.Intn(4) {
	case 0:
		return randomPen(random, 2), randomWay(random, 5)
	case 1:
		limit := int64(1) << (14 + random.Intn(5))
		return randomPen(random, limit), randomWay(random, impl.MaxCoord-limit/16)
	default:
		limit := int64(4) << random.Intn(12)
		return randomPen(random, limit), randomWay(random, 8*limit)
	}
}

// inLine returns a path of a number of points with equal ways between them.
func inLine(count int, from, way pt) []pt {
	var path []pt
	for k := range int64(count) {
		path = append(path, at(from.X+k*way.X, from.Y+k*way.Y))
	}
	return path
}

func checkSweep(t *testing.T, pen []pt, a, b pt) int64 {
	t.Helper()
	want, due := wantedSweep(pen, a, b)
	got, code := impl.SweepOf(pen, a, b)
	check(t, show("SweepOf", pen, a, b), show(got, code), show(want, due))
	back, backCode := impl.SweepOf(pen, b, a)
	check(t, show("the way back", pen, a, b), show(back, backCode), show(want, due))
	sum, sumCode := impl.MinkowskiSum(pen, wantedHull([]pt{a, b}))
	check(t, show("sum with the segment", pen, a, b), show(ringOf(sum...), sumCode), show(want, due))
	if code == impl.OK {
		checkConvex(t, got.Points, allSums(pen, []pt{a, b}))
	}
	return code
}

func TestSweepOf(t *testing.T) {
	cases := []struct {
		pen, ends, want string
		code            int64
	}{
		{"-1,-1 1,-1 1,1 -1,1", "0,0 4,0", "-1,-1 5,-1 5,1 -1,1", impl.OK}, {"-1,-1 1,-1 1,1 -1,1", "4,0 0,0", "-1,-1 5,-1 5,1 -1,1", impl.OK}, {"-1,-1 1,-1 1,1 -1,1", "0,0 0,-7", "-1,-8 1,-8 1,1 -1,1", impl.OK}, {"-1,-1 1,-1 1,1 -1,1", "0,0 3,5", "-1,-1 1,-1 4,4 4,6 2,6 -1,1", impl.OK}, {"-1,-1 1,-1 1,1 -1,1", "3,3 3,3", "2,2 4,2 4,4 2,4", impl.OK},
		{"0,0", "3,4 5,6", "3,4 5,6", impl.OK}, {"0,0", "5,6 3,4", "3,4 5,6", impl.OK}, {"2,1", "3,4 3,4", "5,5", impl.OK}, {"0,0 4,0", "0,0 9,0", "0,0 13,0", impl.OK}, {"0,0 4,0", "0,0 0,3", "0,0 4,0 4,3 0,3", impl.OK}, {"0,0 4,0", "0,0 -3,3", "0,0 4,0 1,3 -3,3", impl.OK}, {"0,0 4,0", "1,1 1,1", "1,1 5,1", impl.OK}, {"10,10 12,10 10,12", "0,0 1,-1", "11,9 13,9 10,12 10,10", impl.OK},
		{"-1,0 1,0", "262143,0 0,0", "-1,0 262144,0", impl.OK}, {"-1,0 1,0", "262144,0 0,0", "", impl.ErrRange}, {"-1,0 1,0", "0,0 262144,0", "", impl.ErrRange}, {"-1,0 1,0", "0,0 -262144,5", "", impl.ErrRange}, {"0,-1 0,1", "-262144,0 262144,262143", "-262144,-1 262144,262142 262144,262144 -262144,1", impl.OK}, {"0,-1 0,1", "0,262144 0,0", "", impl.ErrRange}, {"0,-1 0,1", "0,-262144 0,0", "", impl.ErrRange},
		{"262144,262144", "-262144,-262144 0,0", "0,0 262144,262144", impl.OK}, {"262144,262144", "0,0 1,0", "", impl.ErrRange}, {"262144,262144", "0,1 0,0", "", impl.ErrRange}, {"262144,262144", "262144,262144 262144,262144", "", impl.ErrRange}, {"-262144,-262144", "-262144,-262144 0,0", "", impl.ErrRange}, {"-262144,-262144 262144,-262144 262144,262144 -262144,262144", "0,0 0,0", "-262144,-262144 262144,-262144 262144,262144 -262144,262144", impl.OK},
	}
	for _, c := range cases {
		ends := points(c.ends)
		got, code := impl.SweepOf(points(c.pen), ends[0], ends[1])
		check(t, show("SweepOf", c.pen, c.ends), show(got, code), show(ringOf(points(c.want)...), c.code))
		checkSweep(t, points(c.pen), ends[0], ends[1])
	}
	random, codes := fixedRandom(), map[int64]int{}
	for _, pen := range somePens() {
		for range 20 {
			limit := int64(1) << random.Intn(19)
			codes[checkSweep(t, pen, placeIn(random, limit), placeIn(random, limit))]++
		}
	}
	if codes[impl.OK] < 1000 || codes[impl.ErrRange] < 100 {
		t.Errorf("too few sweeps of a kind: %v", codes)
	}
	for _, bad := range badPens() {
		for _, a := range []pt{at(0, 0), at(impl.MaxCoord, impl.MaxCoord), badPts()[0]} {
			got, code := impl.SweepOf(bad, a, at(1, 1))
			check(t, show("SweepOf", bad, a), show(got, code), show(ring{}, impl.ErrInvalid))
		}
	}
	for _, bad := range badPts() {
		for _, ends := range [][2]pt{{bad, at(0, 0)}, {at(0, 0), bad}, {bad, bad}} {
			got, code := impl.SweepOf(points("-1,-1 1,-1 1,1 -1,1"), ends[0], ends[1])
			check(t, show("SweepOf", ends), show(got, code), show(ring{}, impl.ErrInvalid))
		}
	}
}

// checkRaw holds RawStroke against the words of the document.
func checkRaw(t *testing.T, pen, path []pt, closed bool) (region, int64) {
	t.Helper()
	want, due := wantedRaw(pen, path, closed)
	got, code := impl.RawStroke(pen, path, closed)
	check(t, show("RawStroke", pen, path, closed), show(got, code), show(want, due))
	return got, code
}

func TestRawStroke(t *testing.T) {
	const box = "-1,-1 1,-1 1,1 -1,1"
	cases := []struct {
		pen, path    string
		open, closed string
		code         int64
	}{
		{box, "0,0", "-1,-1 1,-1 1,1 -1,1", "-1,-1 1,-1 1,1 -1,1", impl.OK}, {"2,3", "5,5", "7,8", "7,8", impl.OK}, {"0,0 1,0", "5,5", "5,5 6,5", "5,5 6,5", impl.OK},
		{box, "0,0 4,0", "-1,-1 5,-1 5,1 -1,1", "-1,-1 5,-1 5,1 -1,1", impl.OK}, {box, "0,0 0,0", "-1,-1 1,-1 1,1 -1,1", "-1,-1 1,-1 1,1 -1,1", impl.OK}, {box, "0,0 0,0 0,0", "-1,-1 1,-1 1,1 -1,1;-1,-1 1,-1 1,1 -1,1", "-1,-1 1,-1 1,1 -1,1;-1,-1 1,-1 1,1 -1,1;-1,-1 1,-1 1,1 -1,1", impl.OK},
		{box, "0,0 4,0 4,6", "-1,-1 5,-1 5,1 -1,1;3,-1 5,-1 5,7 3,7", "-1,-1 5,-1 5,1 -1,1;3,-1 5,-1 5,7 3,7;-1,-1 1,-1 5,5 5,7 3,7 -1,1", impl.OK}, {box, "0,0 4,0 0,0", "-1,-1 5,-1 5,1 -1,1;-1,-1 5,-1 5,1 -1,1", "-1,-1 5,-1 5,1 -1,1;-1,-1 5,-1 5,1 -1,1;-1,-1 1,-1 1,1 -1,1", impl.OK},
		{"0,0", "0,0 4,0 4,6", "0,0 4,0;4,0 4,6", "0,0 4,0;4,0 4,6;0,0 4,6", impl.OK}, {"0,0", "9,0 4,0 4,6 9,0", "4,0 9,0;4,0 4,6;9,0 4,6", "4,0 9,0;4,0 4,6;9,0 4,6;9,0", impl.OK}, {box, "0,0 4,0 262144,0", "", "", impl.ErrRange}, {box, "0,262144 4,0 0,0", "", "", impl.ErrRange},
	}
	for _, c := range cases {
		open, one := impl.RawStroke(points(c.pen), points(c.path), false)
		closed, other := impl.RawStroke(points(c.pen), points(c.path), true)
		check(t, show("RawStroke", c.pen, c.path), show(open, one, closed, other), show(linesOf(c.open), c.code, linesOf(c.closed), c.code))
	}
	random, codes := fixedRandom(), map[int64]int{}
	for range 1500 {
		pen, path := randomStroke(random)
		for _, closed := range []bool{false, true} {
			_, code := checkRaw(t, pen, path, closed)
			codes[code]++
		}
	}
	if codes[impl.OK] < 1000 || codes[impl.ErrRange] < 200 {
		t.Errorf("too few strokes of a kind: %v", codes)
	}
}

// TestRawStrokeLimits is about the numbers of legs and edges, and about paths that are too long.
func TestRawStrokeLimits(t *testing.T) {
	box, nine, way := points("-1,-1 1,-1 1,1 -1,1"), parabolaPts(9), at(7, -3)
	// A leg across the sides of a pen with nine corners has eleven edges, one that stays at its place has nine.
	mixed := func(moves, stays int) []pt {
		path := inLine(moves+1, at(0, 0), way)
		return append(path, slices.Repeat(path[moves:], stays)...)
	}
	cases := []struct {
		what      string
		pen, path []pt
		closed    bool
		code      int64
	}{
		{"most legs", box, inLine(41, at(0, 0), at(3, 0)), false, impl.OK}, {"one leg more", box, inLine(42, at(0, 0), at(3, 0)), false, impl.ErrFull}, {"one leg more behind the last one", box, inLine(41, at(0, 0), at(3, 0)), true, impl.ErrFull}, {"most legs, closed", box, inLine(40, at(0, 0), at(3, 0)), true, impl.OK}, {"most legs without edges", points("0,0"), make([]pt, 41), false, impl.OK}, {"one leg without edges more", points("0,0"), make([]pt, 42), false, impl.ErrFull},
		{"most edges", nine, mixed(29, 9), false, impl.OK}, {"one edge more", nine, mixed(34, 3), false, impl.ErrFull}, {"most edges of most legs", points("-2,-5 2,-5 5,-2 5,2 2,5 -2,5 -5,2 -5,-2"), inLine(41, at(0, 0), way), false, impl.OK}, {"most points", box, make([]pt, 400), false, impl.ErrFull}, {"one point more", box, make([]pt, 401), false, impl.ErrInvalid},
		{"too many legs, and one out of range", box, append(make([]pt, 60), at(impl.MaxCoord, 0)), false, impl.ErrRange}, {"too many legs, the first one out of range", box, append([]pt{at(impl.MaxCoord, 0)}, make([]pt, 60)...), true, impl.ErrRange}, {"out of range, and a point that is not valid", box, []pt{at(impl.MaxCoord, 0), at(0, impl.MaxCoord+1)}, false, impl.ErrInvalid},
	}
	for _, c := range cases {
		raw, code := impl.RawStroke(c.pen, c.path, c.closed)
		check(t, c.what, code, c.code)
		check(t, c.what+": rings", len(raw.Rings) > 0, c.code == impl.OK)
		if c.code != impl.ErrInvalid {
			checkRaw(t, c.pen, c.path, c.closed)
		}
		stroke, code := impl.StrokeOf(c.pen, c.path, c.closed)
		if code != c.code && (c.code != impl.OK || code != impl.ErrFull) || code != impl.OK && len(stroke.Rings) > 0 {
			t.Errorf("%s: the code of the stroke is %d, with %d rings", c.what, code, len(stroke.Rings))
		}
	}
	if raw, _ := impl.RawStroke(nine, mixed(29, 9), false); len(edgesOf(raw.Rings...)) != 400 {
		t.Errorf("the stroke with most edges has %d", len(edgesOf(raw.Rings...)))
	}
}

// strokeCounts are what the strokes of a test have reached.
type strokeCounts struct {
	codes, rounds  map[int64]int
	passed, missed int
}

func newStrokeCounts() strokeCounts {
	return strokeCounts{codes: map[int64]int{}, rounds: map[int64]int{}}
}

// checkStroke holds StrokeOf against the words of the document, and against promise 13: away from the edges of its sweeps, it has exactly the places that the pen passes over.
func (c *strokeCounts) checkStroke(t *testing.T, random *rand.Rand, pen, path []pt, closed bool) {
	t.Helper()
	const k = 3
	want, due := wantedStroke(pen, path, closed)
	got, code := impl.StrokeOf(pen, path, closed)
	check(t, show("StrokeOf", pen, path, closed), show(got, code), show(want, due))
	c.codes[code]++
	if code != impl.OK {
		return
	}
	checkClean(t, got)
	raw, _ := impl.RawStroke(pen, path, closed)
	_, rounds, _ := impl.SnapRegion(raw)
	c.rounds[rounds]++
	for range 6 {
		p := nearPlace(random, raw)
		q := at(k*p.X+random.Int63n(k), k*p.Y+random.Int63n(k))
		isDot := func(g ring) bool { return len(g.Points) == 1 && grown(g.Points[0], k) == q }
		if !isFar(edgesOf(raw.Rings...), q, k, rounds) || slices.ContainsFunc(raw.Rings, isDot) {
			continue
		}
		passed := isPassed(pen, path, closed, q, k)
		winding, ok := wantedWinding(got, q, k)
		check(t, show("covered", pen, path, closed, q), show(winding == 1, winding == 0, ok), show(passed, !passed, true))
		if passed {
			c.passed++
		} else {
			c.missed++
		}
	}
}

func TestStrokeOf(t *testing.T) {
	const box = "-1,-1 1,-1 1,1 -1,1"
	cases := []struct{ pen, path, open, closed string }{
		{box, "0,0 4,0", "-1,-1 5,-1 5,1 -1,1", "-1,-1 5,-1 5,1 -1,1"}, {box, "0,0", "-1,-1 1,-1 1,1 -1,1", "-1,-1 1,-1 1,1 -1,1"}, {box, "5,5 5,5 5,5", "4,4 6,4 6,6 4,6", "4,4 6,4 6,6 4,6"}, {box, "0,0 4,0 0,0", "-1,-1 5,-1 5,1 -1,1", "-1,-1 1,-1 5,-1 5,1 1,1 -1,1"},
		{box, "0,0 4,0 4,6", "-1,-1 3,-1 5,-1 5,1 5,7 3,7 3,1 -1,1", "-1,-1 1,-1 3,-1 5,-1 5,1 5,5 5,7 3,7 -1,1"}, {box, "0,0 8,0 8,8 0,8", "-1,-1 7,-1 9,-1 9,1 9,7 9,9 7,9 -1,9 -1,7 7,7 7,1 -1,1", "-1,-1 1,-1 7,-1 9,-1 9,1 9,7 9,9 7,9 1,9 -1,9 -1,7 -1,1;1,1 1,7 7,7 7,1"},
		// What has no area is no part of a stroke.
		{"0,0", "0,0 8,0 8,8", "", ""}, {"0,0 3,0", "0,0 8,0", "", ""}, {"0,0 3,0", "0,0 8,0 8,5", "8,0 11,0 11,5 8,5", "0,0 3,0 8,3 8,0 11,0 11,5 8,5"}, {"0,0 0,2", "0,0 4,0 9,0", "0,0 4,0 9,0 9,2 4,2 0,2", "0,0 4,0 9,0 9,2 4,2 0,2"},
	}
	counts, random := newStrokeCounts(), fixedRandom()
	for _, c := range cases {
		for i, want := range []string{c.open, c.closed} {
			got, code := impl.StrokeOf(points(c.pen), points(c.path), i == 1)
			check(t, show("StrokeOf", c.pen, c.path, i == 1), show(got, code), show(linesOf(want), impl.OK))
			counts.checkStroke(t, random, points(c.pen), points(c.path), i == 1)
		}
	}
	for range 2500 {
		pen, path := randomStroke(random)
		counts.checkStroke(t, random, pen, path, random.Intn(2) == 0)
	}
	// Short ways across each other lead to more than most edges.
	for range 5 {
		counts.checkStroke(t, random, points("0,0 3,0 3,3"), slices.Concat(randomWay(random, 9), manyPts(random, 38, 400)), false)
	}
	if counts.codes[impl.OK] < 300 || counts.codes[impl.ErrRange] < 60 || counts.codes[impl.ErrFull] < 3 || counts.rounds[0] < 80 || counts.rounds[1] < 80 || counts.rounds[2] < 20 || counts.passed < 500 || counts.missed < 500 {
		t.Errorf("the strokes of this test do not reach all kinds of results: %+v", counts)
	}
}

// manyPts returns points with coordinates up to a limit.
func manyPts(random *rand.Rand, count int, limit int64) []pt {
	var list []pt
	for range count {
		list = append(list, placeIn(random, limit))
	}
	return list
}

// checkHas holds StrokeHas against the pen that moves.
func checkHas(t *testing.T, pen, path []pt, closed bool, p pt) bool {
	t.Helper()
	want := isPassed(pen, path, closed, p, 1)
	has, code := impl.StrokeHas(pen, path, closed, p)
	if has != want || code != impl.OK {
		t.Errorf("StrokeHas %v %v %t %v: got %t with code %d, want %t", pen, path, closed, p, has, code, want)
	}
	return has
}

func TestStrokeHas(t *testing.T) {
	const box, m = "-1,-1 1,-1 1,1 -1,1", impl.MaxCoord
	cases := []struct {
		what, pen, path string
		closed          bool
		p               pt
		want            bool
		code            int64
	}{
		{"in the first sweep", box, "0,0 4,0 4,6", false, at(2, 0), true, impl.OK}, {"in the last sweep", box, "0,0 4,0 4,6", false, at(4, 5), true, impl.OK}, {"on the border", box, "0,0 4,0 4,6", false, at(2, 1), true, impl.OK}, {"at a corner", box, "0,0 4,0 4,6", false, at(5, 7), true, impl.OK}, {"between the legs", box, "0,0 4,0 4,6", false, at(2, 2), false, impl.OK}, {"in the leg back", box, "0,0 4,0 4,6", true, at(2, 4), true, impl.OK}, {"not in the leg back of an open path", box, "0,0 4,0 4,6", false, at(2, 4), false, impl.OK},
		{"a path of one point", box, "3,3", false, at(4, 4), true, impl.OK}, {"a closed path of one point", box, "3,3", true, at(2, 3), true, impl.OK}, {"beside a path of one point", box, "3,3", true, at(1, 3), false, impl.OK}, {"a point", "0,0", "3,3", true, at(3, 3), true, impl.OK}, {"no point", "0,0", "3,3", true, at(3, 4), false, impl.OK}, {"a pen of one point", "1,1", "0,0 6,3", false, at(5, 3), true, impl.OK}, {"beside a pen of one point", "1,1", "0,0 6,3", false, at(5, 2), false, impl.OK}, {"behind a pen of one point", "1,1", "0,0 6,3", false, at(9, 5), false, impl.OK}, {"a line along its path", "0,0 3,0", "0,0 5,0", false, at(8, 0), true, impl.OK}, {"behind a line along its path", "0,0 3,0", "0,0 5,0", false, at(9, 0), false, impl.OK},
		{"the first sweep does not exist", box, "262144,0 0,0 4,0", false, at(2, 0), false, impl.ErrRange}, {"a later sweep does not exist, and is not needed", box, "0,0 4,0 4,262144", false, at(2, 0), true, impl.OK}, {"a later sweep does not exist, and is needed", box, "0,0 4,0 4,262144", false, at(2, 2), false, impl.ErrRange}, {"a sweep before that with the point does not exist", box, "0,0 4,262144 9,0 9,9", false, at(9, 5), false, impl.ErrRange}, {"only the sweep back does not exist", "0,0", "0,0 1,0 2,0", true, at(9, 9), false, impl.OK},
		{"at the limits", "-262144,0 0,0", "262144,262144 0,-262144", false, at(m, m), true, impl.OK}, {"at the other limit", "-262144,0 0,0", "262144,262144 0,-262144", false, at(-m, -m), true, impl.OK}, {"almost at the limit", "-262144,0 0,0", "262144,262144 0,-262144", false, at(1-m, 3-m), false, impl.OK},
	}
	for _, c := range cases {
		has, code := impl.StrokeHas(points(c.pen), points(c.path), c.closed, c.p)
		check(t, c.what, show(has, code), show(c.want, c.code))
		if c.code == impl.OK && !c.want {
			checkHas(t, points(c.pen), points(c.path), c.closed, c.p)
		}
	}
	long := append(make([]pt, 399), at(9, 0))
	has, code := impl.StrokeHas(points(box), long, false, at(5, 1))
	check(t, "a path of most points, far more than a stroke may have", show(has, code), show(true, impl.OK))
	has, code = impl.StrokeHas(points(box), append(make([]pt, 60), at(m, 0)), false, at(0, 1))
	check(t, "in the first one of many sweeps", show(has, code), show(true, impl.OK))
	has, code = impl.StrokeHas(points(box), append(make([]pt, 60), at(m, 0)), false, at(5, 1))
	check(t, "in the last one of many sweeps, which does not exist", show(has, code), show(false, impl.ErrRange))
}

// TestStrokesSmall checks all paths of up to three points of a small grid.
func TestStrokesSmall(t *testing.T) {
	pens := [][]pt{points("0,0"), points("-1,0 1,0"), points("0,0 1,2"), points("-1,-1 1,-1 1,1 -1,1"), points("-1,-1 1,0 0,1")}
	grid, found := gridPts(0, 2), map[bool]int{}
	for _, pen := range pens {
		for _, a := range grid {
			for _, b := range grid {
				for _, p := range gridPts(-1, 3) {
					found[checkHas(t, pen, []pt{a, b}, p.X%2 == 0, p)]++
				}
				for _, c := range grid {
					for i, p := range gridPts(-1, 3) {
						if i%5 == int(a.X+2*b.Y+c.X)%5 {
							found[checkHas(t, pen, []pt{a, b, c}, (a.Y+b.X+c.Y)%2 == 0, p)]++
						}
					}
				}
			}
			for _, p := range gridPts(-1, 3) {
				found[checkHas(t, pen, []pt{a}, p.X%2 == 0, p)]++
			}
		}
	}
	if found[true] < 5000 || found[false] < 5000 {
		t.Errorf("too few points of a kind: %v", found)
	}
}

func TestStrokeHasRandom(t *testing.T) {
	random, found := fixedRandom(), map[bool]int{}
	for range 600 {
		pen, path := randomStroke(random)
		closed := random.Intn(2) == 0
		raw, code := wantedRaw(pen, path, closed)
		if code != impl.OK {
			continue
		}
		for range 8 {
			found[checkHas(t, pen, path, closed, nearPlace(random, raw))]++
		}
		// The pen is where the path is, and each point of it moves along.
		p, q := pick(random, pen), pick(random, path)
		check(t, show("a point of the pen", pen, path), checkHas(t, pen, path, closed, at(p.X+q.X, p.Y+q.Y)), true)
	}
	if found[true] < 1000 || found[false] < 1000 {
		t.Errorf("too few points of a kind: %v", found)
	}
}

// wantedBounds returns the corners of the box of points.
func wantedBounds(list []pt) (pt, pt) {
	var xs, ys []int64
	for _, p := range list {
		xs, ys = append(xs, p.X), append(ys, p.Y)
	}
	return at(slices.Min(xs), slices.Min(ys)), at(slices.Max(xs), slices.Max(ys))
}

func TestStrokeBounds(t *testing.T) {
	cases := []struct {
		pen, path string
		low, high pt
		code      int64
	}{
		{"-1,-1 1,-1 1,1 -1,1", "0,0 4,0 4,6", at(-1, -1), at(5, 7), impl.OK}, {"-1,-1 1,-1 1,1 -1,1", "4,6 0,0 4,0", at(-1, -1), at(5, 7), impl.OK}, {"2,3", "5,7", at(7, 10), at(7, 10), impl.OK}, {"2,0 5,3 0,3", "7,7 3,9", at(3, 7), at(12, 12), impl.OK}, {"0,0 3,1", "-9,4 -7,-4", at(-9, -4), at(-4, 5), impl.OK},
		{"0,0 1,0", "262144,0", pt{}, pt{}, impl.ErrRange}, {"0,0 1,0", "262143,0", at(262143, 0), at(262144, 0), impl.OK}, {"0,-1 0,0", "0,-262144", pt{}, pt{}, impl.ErrRange}, {"0,-1 0,0", "0,-262143", at(0, -262144), at(0, -262143), impl.OK}, {"-1,0 0,0", "-262144,0 0,0", pt{}, pt{}, impl.ErrRange}, {"0,0 0,1", "0,0 0,262144", pt{}, pt{}, impl.ErrRange}, {"262144,262144", "-262144,-262144", at(0, 0), at(0, 0), impl.OK}, {"262144,262144", "-262144,-262144 0,1", pt{}, pt{}, impl.ErrRange},
	}
	for _, c := range cases {
		low, high, code := impl.StrokeBounds(points(c.pen), points(c.path))
		check(t, show("StrokeBounds", c.pen, c.path), show(low, high, code), show(c.low, c.high, c.code))
	}
	random, codes := fixedRandom(), map[int64]int{}
	for range 3000 {
		pen, path := randomStroke(random)
		wantLow, wantHigh := wantedBounds(allSums(pen, path))
		due := int64(impl.OK)
		if !ringIsValid(ringOf(wantLow, wantHigh)) {
			wantLow, wantHigh, due = pt{}, pt{}, impl.ErrRange
		}
		low, high, code := impl.StrokeBounds(pen, path)
		check(t, show("StrokeBounds", pen, path), show(low, high, code), show(wantLow, wantHigh, due))
		codes[code]++
		// The box of a stroke is that of its sweeps.
		if raw, code := impl.RawStroke(pen, path, true); code == impl.OK {
			rawLow, rawHigh := wantedBounds(slices.Concat(pointsOf(raw)...))
			check(t, show("box of the sweeps", pen, path), show(rawLow, rawHigh), show(low, high))
		}
	}
	low, high, code := impl.StrokeBounds(points("0,0"), append(make([]pt, 399), at(9, 4)))
	check(t, "a path of most points", show(low, high, code), show(at(0, 0), at(9, 4), impl.OK))
	if codes[impl.OK] < 1000 || codes[impl.ErrRange] < 100 {
		t.Errorf("too few strokes of a kind: %v", codes)
	}
}

// TestStrokesNotValid gives each function a pen, a path or a point that is not valid, also together with other errors.
func TestStrokesNotValid(t *testing.T) {
	const m = impl.MaxCoord
	box := points("-1,-1 1,-1 1,1 -1,1")
	checkAll := func(pen, path []pt, p pt, onlyHas bool) {
		t.Helper()
		for _, closed := range []bool{false, true} {
			has, code := impl.StrokeHas(pen, path, closed, p)
			check(t, show("StrokeHas", pen, path, p), show(has, code), show(false, impl.ErrInvalid))
			if onlyHas {
				continue
			}
			raw, one := impl.RawStroke(pen, path, closed)
			stroke, two := impl.StrokeOf(pen, path, closed)
			low, high, three := impl.StrokeBounds(pen, path)
			check(t, show("codes", pen, path), show(raw, one, stroke, two, low, high, three), show(region{}, impl.ErrInvalid, region{}, impl.ErrInvalid, pt{}, pt{}, impl.ErrInvalid))
		}
	}
	for _, pen := range badPens() {
		for _, path := range [][]pt{points("0,0 4,0"), {at(m, m)}, make([]pt, 60), nil} {
			checkAll(pen, path, at(0, 0), false)
		}
	}
	for _, path := range badPaths() {
		checkAll(box, path, at(0, 0), false)
		checkAll(nil, path, at(0, 0), false)
	}
	for _, bad := range badPts() {
		for _, path := range [][]pt{points("0,0 4,0"), {at(m, m)}, make([]pt, 60)} {
			checkAll(box, path, bad, true)
		}
	}
}

// joined returns cubics through a number of points, with control points of their own.
func joinedCubics(random *rand.Rand, knots []pt, limit int64) []cubic {
	var list []cubic
	for i := range knots[1:] {
		a, d := knots[i], knots[i+1]
		near := func(p pt) pt {
			q := placeIn(random, limit)
			return at(max(-impl.MaxCoord, min(impl.MaxCoord, p.X+q.X)), max(-impl.MaxCoord, min(impl.MaxCoord, p.Y+q.Y)))
		}
		list = append(list, cubicOf(a, near(a), near(d), d))
	}
	return list
}

// wantedCubicsStroke returns the stroke of cubics by the words of the document.
func wantedCubicsStroke(pen []pt, list []cubic, tolerance int64) (region, int64) {
	if !impl.IsPen(pen) || len(list) == 0 {
		return region{}, impl.ErrInvalid
	}
	for i, c := range list {
		if !ringIsValid(ringOf(controlsOf(c)...)) || i+1 < len(list) && c.D != list[i+1].A {
			return region{}, impl.ErrInvalid
		}
	}
	path := []pt{list[0].A}
	for _, c := range list {
		points, code := impl.FlattenCubic(c, tolerance)
		if code != impl.OK {
			return region{}, code
		}
		path = append(path, points[1:]...)
	}
	if len(path) > impl.MaxRing {
		return region{}, impl.ErrFull
	}
	return wantedStroke(pen, path, false)
}

func checkCubicsStroke(t *testing.T, pen []pt, list []cubic, tolerance int64) int64 {
	t.Helper()
	want, due := wantedCubicsStroke(pen, list, tolerance)
	got, code := impl.StrokeCubics(pen, list, tolerance)
	check(t, show("StrokeCubics", pen, list, tolerance), show(got, code), show(want, due))
	return code
}

func TestStrokeCubics(t *testing.T) {
	const m = impl.MaxCoord
	box, dot := points("-1,-1 1,-1 1,1 -1,1"), points("0,0")
	arch, base, back := cubicOf(at(0, 0), at(0, 8), at(8, 8), at(8, 0)), cubicOf(at(8, 0), at(8, 0), at(0, 0), at(0, 0)), cubicOf(at(8, 0), at(8, -8), at(0, -8), at(0, 0))
	// A curve of 64 parts, and one of which the bend is too great for a small tolerance.
	long, wild := cubicOf(at(0, 0), at(0, 5000), at(5000, 5000), at(0, 0)), cubicOf(at(-m, -m), at(m, m), at(-m, m), at(m, -m))
	straight := func(x, to int64) cubic { return cubicOf(at(x, 0), at(x, 0), at(to, 0), at(to, 0)) }
	far := cubicOf(at(0, 0), at(0, 0), at(m, 0), at(m, 0))
	cases := []struct {
		what      string
		pen       []pt
		list      []cubic
		tolerance int64
		want      string
		code      int64
	}{
		{"an arch", dot, []cubic{arch}, 3, "", impl.OK}, {"an arch and its base", box, []cubic{arch, base}, m, "-1,-1 9,-1 9,1 -1,1", impl.OK}, {"a straight one", box, []cubic{straight(0, 4)}, 3, "-1,-1 5,-1 5,1 -1,1", impl.OK}, {"straight ones", box, []cubic{straight(0, 4), straight(4, 2), straight(2, 9)}, m, "-1,-1 1,-1 5,-1 10,-1 10,1 5,1 1,1 -1,1", impl.OK}, {"a point", box, []cubic{straight(3, 3)}, 1, "2,-1 4,-1 4,1 2,1", impl.OK},
		{"no cubics", box, nil, 3, "", impl.ErrInvalid}, {"no pen", nil, []cubic{arch}, 3, "", impl.ErrInvalid}, {"no pen, and no tolerance", points("3,3 0,0"), []cubic{arch}, 0, "", impl.ErrInvalid}, {"no pen, and too wild", points("0,0 0,0"), []cubic{wild}, 1, "", impl.ErrInvalid}, {"not joined", box, []cubic{arch, arch}, 3, "", impl.ErrInvalid}, {"not joined at the end", box, []cubic{arch, back, back}, 3, "", impl.ErrInvalid}, {"not joined, and no tolerance", box, []cubic{arch, arch}, 0, "", impl.ErrInvalid}, {"no tolerance", box, []cubic{arch}, 0, "", impl.ErrRange}, {"too great a tolerance", box, []cubic{arch}, m + 1, "", impl.ErrRange}, {"too wild, and no tolerance", box, []cubic{wild}, -1, "", impl.ErrRange}, {"too wild", dot, []cubic{wild}, 1, "", impl.ErrFull}, {"too wild behind one that is not", dot, []cubic{cubicOf(at(0, 0), at(0, 0), at(-m, -m), at(-m, -m)), wild}, 1, "", impl.ErrFull},
		{"too wild, and out of range", box, []cubic{wild}, 1, "", impl.ErrFull}, {"out of range", box, []cubic{far}, m, "", impl.ErrRange}, {"out of range, and too many legs", box, append(slices.Repeat([]cubic{straight(0, 0)}, 60), far), m, "", impl.ErrRange}, {"out of range, and as many points as may be", box, append(slices.Repeat([]cubic{straight(0, 0)}, 398), far), m, "", impl.ErrRange}, {"out of range, and one point more", box, append(slices.Repeat([]cubic{straight(0, 0)}, 399), far), m, "", impl.ErrFull}, {"out of range at the beginning, and one point more", box, append([]cubic{straight(m, 0)}, slices.Repeat([]cubic{straight(0, 0)}, 399)...), m, "", impl.ErrFull},
		{"most legs", box, slices.Repeat([]cubic{straight(0, 0)}, 40), m, "-1,-1 1,-1 1,1 -1,1", impl.OK}, {"one leg more", box, slices.Repeat([]cubic{straight(0, 0)}, 41), m, "", impl.ErrFull}, {"many points", dot, slices.Repeat([]cubic{long}, 7), 1, "", impl.ErrFull}, {"many cubics, one of which is not valid", dot, append(slices.Repeat([]cubic{long}, 7), cubicOf(at(0, 0), at(m+1, 0), at(0, 0), at(0, 0))), 1, "", impl.ErrInvalid}, {"many cubics, and no tolerance", dot, slices.Repeat([]cubic{long}, 7), 0, "", impl.ErrRange}, {"very many cubics", dot, slices.Repeat([]cubic{long}, 100000), 1, "", impl.ErrFull},
	}
	for _, c := range cases {
		got, code := impl.StrokeCubics(c.pen, c.list, c.tolerance)
		check(t, c.what, code, c.code)
		if code == impl.OK {
			check(t, c.what, show(got), show(linesOf(c.want)))
		}
		if len(c.list) < 1000 {
			checkCubicsStroke(t, c.pen, c.list, c.tolerance)
		}
	}
	curve, _ := impl.StrokeCubics(box, []cubic{arch}, 3)
	path, _ := impl.StrokeOf(box, points("0,0 4,6 8,0"), false)
	check(t, "the stroke of an arch", show(curve), show(path))
	for _, pen := range badPens() {
		checkCubicsStroke(t, pen, []cubic{arch}, 3)
	}
	for _, bad := range badCubics() {
		checkCubicsStroke(t, box, []cubic{bad}, 3)
		checkCubicsStroke(t, box, []cubic{cubicOf(at(0, 0), at(0, 0), bad.A, bad.A), bad, cubicOf(bad.D, bad.D, at(0, 0), at(0, 0))}, 3)
	}
	for _, tolerance := range badTolerances() {
		check(t, show("tolerance", tolerance), checkCubicsStroke(t, box, []cubic{arch, back}, tolerance), impl.ErrRange)
	}
}

func TestStrokeCubicsRandom(t *testing.T) {
	random, codes := fixedRandom(), map[int64]int{}
	for range 500 {
		pen, path := randomStroke(random)
		limit := int64(4) << random.Intn(15)
		tolerance := 1 + random.Int63n(limit)
		list := joinedCubics(random, append(path, placeIn(random, 50)), limit)
		codes[checkCubicsStroke(t, pen, list, tolerance)]++
	}
	if codes[impl.OK] < 200 || codes[impl.ErrRange] < 10 || codes[impl.ErrFull] < 10 {
		t.Errorf("too few strokes of a kind: %v", codes)
	}
}

// wantedBorderOf returns the sweeps of all closed rings, and whether they are valid together.
func wantedBorderOf(r region, pen []pt) (region, int64) {
	var all region
	for _, g := range r.Rings {
		raw, code := wantedRaw(pen, g.Points, true)
		if code != impl.OK {
			return region{}, code
		}
		all.Rings = append(all.Rings, raw.Rings...)
	}
	if !regionIsValid(all) {
		return region{}, impl.ErrFull
	}
	return all, impl.OK
}

// wantedWithBorder combines a region with its border.
func wantedWithBorder(r region, pen []pt, how int64) (region, int64) {
	if !regionIsValid(r) || !impl.IsPen(pen) {
		return region{}, impl.ErrInvalid
	}
	all, code := wantedBorderOf(r, pen)
	if code != impl.OK {
		return region{}, code
	}
	return wantedCombination(r, all, how)
}

// borderCounts are what the regions of a test have reached.
type borderCounts struct {
	codes               map[int64]int
	wide, narrow, other int
}

// checkBorder holds WidenRegion and ShrinkRegion against the words of the document and against what the pen passes over.
func (c *borderCounts) checkBorder(t *testing.T, random *rand.Rand, r region, pen []pt) {
	t.Helper()
	want, due := wantedWithBorder(r, pen, impl.BoUnion)
	wide, code := impl.WidenRegion(r, pen)
	check(t, show("WidenRegion", r, pen), show(wide, code), show(want, due))
	c.codes[code]++
	want, due = wantedWithBorder(r, pen, impl.BoMinus)
	narrow, narrowCode := impl.ShrinkRegion(r, pen)
	check(t, show("ShrinkRegion", r, pen), show(narrow, narrowCode), show(want, due))
	c.codes[narrowCode]++
	if code != impl.OK || narrowCode != impl.OK {
		return
	}
	border, _ := wantedBorderOf(r, pen)
	_, _, rounds, _ := snappedBoth(r, border)
	both := region{Rings: slices.Concat(r.Rings, border.Rings)}
	for range 4 {
		p := nearPlace(random, both)
		isDot := func(g ring) bool { return len(g.Points) == 1 && g.Points[0] == p }
		if !isFar(edgesOf(both.Rings...), p, 1, rounds) || slices.ContainsFunc(both.Rings, isDot) {
			continue
		}
		passed := slices.ContainsFunc(r.Rings, func(g ring) bool { return isPassed(pen, g.Points, true, p, 1) })
		winding, _ := wantedWinding(r, p, 1)
		inWide, _ := wantedWinding(wide, p, 1)
		inNarrow, _ := wantedWinding(narrow, p, 1)
		check(t, show("wide and narrow", r, pen, p), show(inWide, inNarrow), show(numberOf(passed || winding != 0), numberOf(winding != 0 && !passed)))
		switch {
		case inNarrow == 1:
			c.narrow++
		case inWide == 1:
			c.wide++
		default:
			c.other++
		}
	}
}

func TestWidenAndShrink(t *testing.T) {
	t.Parallel()
	const box = "-1,-1 1,-1 1,1 -1,1"
	cases := []struct{ pen, lines, wide, narrow string }{
		{box, "0,0 10,0 10,10 0,10", "-1,-1 11,-1 11,11 -1,11", "1,1 9,1 9,9 1,9"}, {box, "0,10 10,10 10,0 0,0", "-1,-1 11,-1 11,11 -1,11", "1,1 9,1 9,9 1,9"}, {box, "0,0 20,0 20,20 0,20;5,5 5,15 15,15 15,5", "-1,-1 21,-1 21,21 -1,21;6,6 6,14 14,14 14,6", "1,1 19,1 19,19 1,19;4,4 4,16 16,16 16,4"},
		{box, "", "", ""}, {box, "3,3", "2,2 4,2 4,4 2,4", ""}, {box, "3,3 3,3;9,9", "2,2 4,2 4,4 2,4;8,8 10,8 10,10 8,10", ""}, {box, "0,0 4,0", "-1,-1 5,-1 5,1 -1,1", ""}, {box, "0,0 2,0 2,2 0,2", "-1,-1 3,-1 3,3 -1,3", ""}, {box, "0,0 4,0 9,0", "-1,-1 10,-1 10,1 -1,1", ""}, {box, "0,0 9,0 9,9 0,9 0,0 0,9 9,9 9,0", "-1,-1 10,-1 10,10 -1,10;1,1 1,8 8,8 8,1", ""},
		// A pen that is not around its own origin moves what it adds, and one without area adds and takes nothing where it moves along itself.
		{"0,0", "0,0 10,0 10,10 0,10", "0,0 10,0 10,10 0,10", "0,0 10,0 10,10 0,10"}, {"0,0 2,0", "0,0 10,0 10,10 0,10", "0,0 12,0 12,10 0,10", "2,0 10,0 10,10 2,10"}, {"0,0 0,3", "0,0 10,0 10,10 0,10", "0,0 10,0 10,13 0,13", "0,3 10,3 10,10 0,10"}, {"5,5", "0,0 10,0 10,10 0,10", "0,0 10,0 10,10 0,10", "0,0 10,0 10,10 0,10"}, {"20,0 22,0 22,2 20,2", "0,0 10,0 10,10 0,10", "0,0 10,0 10,10 0,10;20,0 32,0 32,12 20,12;22,2 22,10 30,10 30,2", "0,0 10,0 10,10 0,10"},
	}
	counts, random := borderCounts{codes: map[int64]int{}}, fixedRandom()
	for _, c := range cases {
		r := linesOf(c.lines)
		wide, one := impl.WidenRegion(r, points(c.pen))
		wide, two := impl.TidyRegion(wide)
		narrow, three := impl.ShrinkRegion(r, points(c.pen))
		narrow, four := impl.TidyRegion(narrow)
		check(t, show("wide and narrow", c.lines, c.pen), show(wide, narrow, one, two, three, four), show(linesOf(c.wide), linesOf(c.narrow), 0, 0, 0, 0))
		counts.checkBorder(t, random, r, points(c.pen))
	}
	for range 2500 {
		limit := int64(1) << random.Intn(7)
		list := manyPts(random, 1+random.Intn(4), limit)
		if random.Intn(8) == 0 {
			list[0].X = impl.MaxCoord - random.Int63n(100)
		}
		if r := randomRegion(random); len(edgesOf(r.Rings...)) < 9 {
			counts.checkBorder(t, random, r, wantedHull(list))
		}
	}
	for range 5 {
		counts.checkBorder(t, random, randomRegion(random), randomPen(random, 50))
	}
	if counts.codes[impl.OK] < 500 || counts.codes[impl.ErrRange] < 50 || counts.codes[impl.ErrFull] < 1 || counts.wide < 300 || counts.narrow < 50 || counts.other < 300 {
		t.Errorf("the regions of this test do not reach all kinds of results: %+v", counts)
	}
}

// TestBorderLimits is about the order of errors and the numbers of legs and edges.
func TestBorderLimits(t *testing.T) {
	const m = impl.MaxCoord
	box, dot, oval := points("-1,-1 1,-1 1,1 -1,1"), points("0,0"), points("-2,-5 2,-5 5,-2 5,2 2,5 -2,5 -5,2 -5,-2")
	far, many := ringOf(at(m, 0), at(m, 5)), ringOf(make([]pt, 41)...)
	// A slant bar has two edges, and ten more where the oval pen is moved along it; a dot has none, and eight more.
	bars := func(count, dots int) region {
		var r region
		for k := range int64(count) {
			r.Rings = append(r.Rings, ringOf(at(100*k, 99), at(100*k+7, 96)))
		}
		for k := range int64(dots) {
			r.Rings = append(r.Rings, ringOf(at(100*k, 1999)))
		}
		return r
	}
	of := func(rings ...ring) region { return region{Rings: rings} }
	cases := []struct {
		what string
		r    region
		pen  []pt
		code int64
	}{
		{"out of range", of(far), box, impl.ErrRange}, {"too many legs", of(many), box, impl.ErrFull}, {"too many legs, and then out of range", of(many, far), box, impl.ErrFull}, {"out of range, and then too many legs", of(far, many), box, impl.ErrRange}, {"out of range in a ring with too many legs", of(ringOf(append(many.Points, far.Points...)...)), box, impl.ErrRange}, {"out of range behind good rings", of(comb(9, 0, 0), far), box, impl.ErrRange},
		{"most legs in two rings", with(bars(1, 0), ringOf(make([]pt, 39)...)), box, impl.OK}, {"one leg more in two rings", with(bars(1, 1), ringOf(make([]pt, 39)...)), box, impl.ErrFull}, {"most rings", bars(40, 0), dot, impl.OK}, {"most rings, and no edges", sameRings(40, "0,0"), box, impl.OK}, {"a ring of most points", of(ringOf(make([]pt, 400)...)), box, impl.ErrFull}, {"most legs in one ring, without edges", of(ringOf(make([]pt, 40)...)), dot, impl.OK},
		{"most edges together", bars(32, 2), oval, impl.OK}, {"too many edges together", bars(33, 1), oval, impl.ErrFull}, {"too many edges of the border", bars(37, 0), parabolaPts(9), impl.ErrFull}, {"most edges of the border, which are too many together", bars(40, 0), oval, impl.ErrFull}, {"far away", of(ringOf(at(-m, -m), at(m, -m), at(m, m), at(-m, m))), dot, impl.OK}, {"far away with a pen", of(ringOf(at(-m, -m), at(m, -m), at(m, m), at(-m, m))), points("0,0 0,1"), impl.ErrRange},
		{"no rings", region{}, []pt{at(m, m)}, impl.OK}, {"no pen, and no rings", region{}, nil, impl.ErrInvalid}, {"no pen, and out of range", of(far), points("0,0 0,0"), impl.ErrInvalid}, {"a region that is not valid", of(ringOf(at(m+1, 0))), box, impl.ErrInvalid}, {"a ring without points behind one out of range", of(far, ringOf()), box, impl.ErrInvalid}, {"both not valid", of(ringOf()), nil, impl.ErrInvalid},
	}
	counts, random := borderCounts{codes: map[int64]int{}}, fixedRandom()
	for _, c := range cases {
		wide, one := impl.WidenRegion(c.r, c.pen)
		narrow, two := impl.ShrinkRegion(c.r, c.pen)
		check(t, c.what, show(one, two), show(c.code, c.code))
		if c.code != impl.OK {
			check(t, c.what, show(wide, narrow), show(region{}, region{}))
		}
		counts.checkBorder(t, random, c.r, c.pen)
	}
	for _, bad := range badRegions() {
		counts.checkBorder(t, random, bad, box)
	}
	for _, bad := range badPens() {
		counts.checkBorder(t, random, linesOf("0,0 4,0 4,4 0,4"), bad)
	}
	check(t, "arguments that are not valid", counts.codes[impl.ErrInvalid] > 2*len(badPens()), true)
}

// strokeResults are what the functions of chapter 12 return.
type strokeResults struct {
	sweep     ring
	regions   []region
	low, high pt
	has       bool
	codes     []int64
}

func strokeResultsOf(pen, path []pt, closed bool, p pt, list []cubic, tolerance int64, r region) strokeResults {
	s := strokeResults{codes: make([]int64, 8), regions: make([]region, 5)}
	s.regions[0], s.codes[0] = impl.RawStroke(pen, path, closed)
	s.regions[1], s.codes[1] = impl.StrokeOf(pen, path, closed)
	s.regions[2], s.codes[2] = impl.StrokeCubics(pen, list, tolerance)
	s.regions[3], s.codes[3] = impl.WidenRegion(r, pen)
	s.regions[4], s.codes[4] = impl.ShrinkRegion(r, pen)
	s.sweep, s.codes[5] = impl.SweepOf(pen, p, at(p.Y, p.X))
	s.has, s.codes[6] = impl.StrokeHas(pen, path, closed, p)
	s.low, s.high, s.codes[7] = impl.StrokeBounds(pen, path)
	return s
}

// checkZero holds everything that comes with an error to be 0.
func (s strokeResults) checkZero(t *testing.T) {
	t.Helper()
	var zero []bool
	for _, r := range s.regions {
		zero = append(zero, len(r.Rings) == 0)
	}
	for i, isZero := range append(zero, len(s.sweep.Points) == 0, !s.has, s.low == pt{} && s.high == pt{}) {
		if s.codes[i] != impl.OK && !isZero {
			t.Errorf("result %d is not 0 though the code is %d: %+v", i, s.codes[i], s)
		}
	}
}

// overwriteResults sets all memory of the results, list by list, and holds the others to stay as they are.
func (s strokeResults) overwriteResults(t *testing.T) {
	t.Helper()
	lists := [][]pt{s.sweep.Points}
	for _, r := range s.regions {
		lists = append(lists, pointsOf(r)...)
	}
	for i, list := range lists {
		before := show(lists[i+1:])
		overwrite(list, at(55, 55))
		check(t, "later results", show(lists[i+1:]), before)
	}
	for _, r := range s.regions {
		overwrite(r.Rings, ringOf(at(55, 55)))
	}
}

// TestStrokesTotal is promise 1 for chapter 12: all functions return for all arguments, twice alike, in new memory, and keep their arguments.
func TestStrokesTotal(t *testing.T) {
	t.Parallel()
	random, numbers := fixedRandom(), extremeNumbers()
	pens, paths, regions := append(badPens(), somePens()...), append(badPaths(), points("0,0 9,0 9,9"), points("5,5"), make([]pt, 41), make([]pt, 400)), append(badRegions(), goodRegions()...)
	goods := map[int64]int{}
	for range 2000 {
		pen, path := randomStroke(random)
		closed, p, tolerance := random.Intn(2) == 0, placeIn(random, 9), 1+random.Int63n(100)
		list := joinedCubics(random, append(slices.Clone(path), placeIn(random, 50)), 40)
		r := randomRegion(random)
		if random.Intn(9) == 0 {
			r = pick(random, regions)
		}
		odd := at(pick(random, numbers), pick(random, numbers))
		switch random.Intn(9) {
		case 0:
			pen = slices.Clone(pick(random, pens))
		case 1:
			path = pick(random, paths)
		case 2:
			p, tolerance = odd, odd.X
		case 3:
			path[random.Intn(len(path))] = odd
		case 4:
			pen[random.Intn(len(pen))] = odd
		case 5:
			list = list[:0]
		case 6:
			list[random.Intn(len(list))].B = odd
		}
		pen, path, list, r = roomySlice(pen, at(77, 77)), roomySlice(path, at(77, 77)), roomySlice(list, cubic{}), roomyRegion(r)
		memory := func() string {
			return show(pen[:cap(pen)], path[:cap(path)], list[:cap(list)], regionMemory(r))
		}
		before := memory()
		first := strokeResultsOf(pen, path, closed, p, list, tolerance, r)
		first.checkZero(t)
		for i, code := range first.codes {
			if code == impl.OK {
				goods[int64(i)]++
			}
		}
		shown := show(first)
		check(t, "arguments after all calls", memory(), before)
		first.overwriteResults(t)
		check(t, "arguments after results are overwritten", memory(), before)
		if shown != show(strokeResultsOf(pen, path, closed, p, list, tolerance, r)) {
			t.Fatal("equal arguments have different results: ", pen, path, closed, p, list, tolerance, r)
		}
	}
	for i := range int64(8) {
		if goods[i] < 300 {
			t.Errorf("too few results without an error: %v", goods)
		}
	}
}

// TestStrokesLeaveNothingBehind holds calls that end early to end all that they have begun.
func TestStrokesLeaveNothingBehind(t *testing.T) {
	box, long := points("-1,-1 1,-1 1,1 -1,1"), make([]pt, 400)
	long[0] = at(impl.MaxCoord, 0)
	before := runtime.NumGoroutine()
	for range 300 {
		impl.StrokeHas(box, long, false, at(9, 9))
		impl.StrokeHas(box, long[1:], true, at(1, 1))
		impl.RawStroke(box, long, true)
		impl.RawStroke(box, long[1:], true)
	}
	for range 1000 {
		if runtime.NumGoroutine() <= before {
			return
		}
		runtime.Gosched()
		time.Sleep(time.Millisecond)
	}
	t.Errorf("there are %d goroutines, before there were %d", runtime.NumGoroutine(), before)
}
