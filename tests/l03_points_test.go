package tests

import (
	"fmt"
	"math"
	"math/big"
	"math/rand"
	"slices"
	"strings"
	"testing"

	"loop.example/g00883/impl"
)

type pt = impl.Pt

func at(x, y int64) pt { return pt{X: x, Y: y} }

// gridPts returns all points with coordinates from low to high.
func gridPts(low, high int64) []pt {
	var list []pt
	for x := low; x <= high; x++ {
		for y := low; y <= high; y++ {
			list = append(list, at(x, y))
		}
	}
	return list
}

// cornerPts returns points at the limits, and some beside them.
func cornerPts() []pt {
	const m = impl.MaxCoord
	return []pt{at(0, 0), at(m, m), at(-m, m), at(m, -m), at(-m, -m), at(m, 0), at(0, -m), at(m-1, m), at(1-m, -m), at(m, m-1), at(1, 1), at(-m, 1-m)}
}

// badPts returns points that are not valid.
func badPts() []pt {
	const m = impl.MaxCoord
	return []pt{at(m+1, 0), at(0, m+1), at(-m-1, 0), at(0, -m-1), at(m+1, -m-1), at(math.MaxInt64, 0), at(0, math.MinInt64), at(math.MinInt64, math.MinInt64)}
}

// randomPt returns a point of any size: small ones meet often, great ones reach the limits.
func randomPt(random *rand.Rand) pt {
	limit := int64(1) << random.Intn(19)
	return at(random.Int63n(2*limit+1)-limit, random.Int63n(2*limit+1)-limit)
}

// linePts returns points that are all on one line through points of the grid.
func linePts(random *rand.Rand, n int) []pt {
	from, way := at(random.Int63n(201)-100, random.Int63n(201)-100), at(random.Int63n(201)-100, random.Int63n(201)-100)
	list := make([]pt, n)
	for i := range list {
		k := random.Int63n(13) - 6
		list[i] = at(from.X+k*way.X, from.Y+k*way.Y)
	}
	return list
}

// orders returns the eight orders in which the same two segments can be given.
func orders(a, b, c, d pt) [][4]pt {
	return [][4]pt{{a, b, c, d}, {b, a, c, d}, {a, b, d, c}, {b, a, d, c}, {c, d, a, b}, {d, c, a, b}, {c, d, b, a}, {d, c, b, a}}
}

func ratio(n, d int64) *big.Rat { return big.NewRat(n, d) }

func unitRange(r *big.Rat) bool { return r.Sign() >= 0 && r.Cmp(ratio(1, 1)) <= 0 }

// exactPt is a real point.
type exactPt struct{ x, y *big.Rat }

func exactOf(p pt) exactPt { return exactPt{ratio(p.X, 1), ratio(p.Y, 1)} }

// partWay returns the point at the part t of the way from a to b.
func partWay(a, b pt, t *big.Rat) exactPt {
	x := new(big.Rat).Mul(t, ratio(b.X-a.X, 1))
	y := new(big.Rat).Mul(t, ratio(b.Y-a.Y, 1))
	return exactPt{x.Add(x, ratio(a.X, 1)), y.Add(y, ratio(a.Y, 1))}
}

func (p exactPt) distSq(q exactPt) *big.Rat {
	x, y := new(big.Rat).Sub(p.x, q.x), new(big.Rat).Sub(p.y, q.y)
	return x.Add(x.Mul(x, x), y.Mul(y, y))
}

// nearestOn returns the point of the segment between a and b that is nearest to p.
func nearestOn(a, b, p pt) exactPt {
	ux, uy := b.X-a.X, b.Y-a.Y
	if ux == 0 && uy == 0 {
		return exactOf(a)
	}
	t := ratio((p.X-a.X)*ux+(p.Y-a.Y)*uy, ux*ux+uy*uy)
	if t.Sign() < 0 {
		t = ratio(0, 1)
	}
	if t.Cmp(ratio(1, 1)) > 0 {
		t = ratio(1, 1)
	}
	return partWay(a, b, t)
}

// exactMeeting returns how two segments meet, from the parameters of both lines, and the point if there is only one.
func exactMeeting(a, b, c, d pt) (int64, exactPt) {
	ux, uy, vx, vy, wx, wy := b.X-a.X, b.Y-a.Y, d.X-c.X, d.Y-c.Y, c.X-a.X, c.Y-a.Y
	if det := ux*vy - uy*vx; det != 0 {
		s, t := ratio(wx*vy-wy*vx, det), ratio(wx*uy-wy*ux, det)
		switch {
		case !unitRange(s) || !unitRange(t):
			return impl.MtNone, exactPt{}
		case s.Sign() == 0 || t.Sign() == 0 || s.Cmp(ratio(1, 1)) == 0 || t.Cmp(ratio(1, 1)) == 0:
			return impl.MtTouch, partWay(a, b, s)
		}
		return impl.MtCross, partWay(a, b, s)
	}
	if a == b {
		if nearestOn(c, d, a).distSq(exactOf(a)).Sign() != 0 {
			return impl.MtNone, exactPt{}
		}
		return impl.MtTouch, exactOf(a)
	}
	return parallelMeeting(a, b, c, d)
}

// parallelMeeting is exactMeeting for parallel segments of which the first one is not a single point.
func parallelMeeting(a, b, c, d pt) (int64, exactPt) {
	ux, uy := b.X-a.X, b.Y-a.Y
	if (c.X-a.X)*uy != (c.Y-a.Y)*ux {
		return impl.MtNone, exactPt{}
	}
	along := func(p pt) int64 { return (p.X-a.X)*ux + (p.Y-a.Y)*uy }
	square := along(b)
	low, high := max(0, min(along(c), along(d))), min(square, max(along(c), along(d)))
	switch {
	case low > high:
		return impl.MtNone, exactPt{}
	case low < high:
		return impl.MtOverlap, exactPt{}
	}
	return impl.MtTouch, partWay(a, b, ratio(low, square))
}

// inPixel reports whether a real point is rounded to p, by the definition of a pixel.
func inPixel(p pt, q exactPt) bool {
	within := func(n int64, r *big.Rat) bool {
		return r.Cmp(ratio(2*n-1, 2)) >= 0 && r.Cmp(ratio(2*n+1, 2)) < 0
	}
	return within(p.X, q.x) && within(p.Y, q.y)
}

// checkMeeting holds MeetingOf and CrossingOf, for all orders of the points, against exactMeeting; this is promise 4 for meetings and crossings.
func checkMeeting(t *testing.T, a, b, c, d pt) int64 {
	t.Helper()
	kind, point := exactMeeting(a, b, c, d)
	first, firstCode := impl.CrossingOf(a, b, c, d)
	for _, o := range orders(a, b, c, d) {
		if got := impl.MeetingOf(o[0], o[1], o[2], o[3]); got != kind {
			t.Errorf("MeetingOf%v: got %d, want %d", o, got, kind)
		}
		p, code := impl.CrossingOf(o[0], o[1], o[2], o[3])
		if p != first || code != firstCode {
			t.Errorf("CrossingOf%v: got %v with code %d, in another order %v with code %d", o, p, code, first, firstCode)
		}
	}
	if kind != impl.MtTouch && kind != impl.MtCross {
		check(t, fmt.Sprint("CrossingOf", a, b, c, d), first, pt{})
		check(t, fmt.Sprint("code of CrossingOf", a, b, c, d), firstCode, impl.ErrState)
		return kind
	}
	check(t, fmt.Sprint("CrossingOf", a, b, c, d), first, at(roundOf(point.x), roundOf(point.y)))
	check(t, fmt.Sprint("code of CrossingOf", a, b, c, d), firstCode, impl.OK)
	if !inPixel(first, point) || !hasReal(a, b, point) || !hasReal(c, d, point) {
		t.Errorf("the pixel of %v has no common point of %v %v and %v %v", first, a, b, c, d)
	}
	return kind
}

// hasReal reports whether a real point is on the segment between a and b.
func hasReal(a, b pt, p exactPt) bool {
	times := func(r *big.Rat, from, way int64) *big.Rat {
		return new(big.Rat).Mul(new(big.Rat).Sub(r, ratio(from, 1)), ratio(way, 1))
	}
	within := func(r *big.Rat, from, to int64) bool {
		return r.Cmp(ratio(min(from, to), 1)) >= 0 && r.Cmp(ratio(max(from, to), 1)) <= 0
	}
	onLine := times(p.y, a.Y, b.X-a.X).Cmp(times(p.x, a.X, b.Y-a.Y)) == 0
	return onLine && within(p.x, a.X, b.X) && within(p.y, a.Y, b.Y)
}

func TestValidPt(t *testing.T) {
	check(t, "MaxCoord", impl.MaxCoord, 262144)
	check(t, "kinds", [4]int64{impl.MtNone, impl.MtTouch, impl.MtCross, impl.MtOverlap}, [4]int64{0, 1, 2, 3})
	for _, p := range cornerPts() {
		check(t, fmt.Sprint("ValidPt", p), impl.ValidPt(p), true)
	}
	for _, p := range badPts() {
		check(t, fmt.Sprint("ValidPt", p), impl.ValidPt(p), false)
	}
}

func TestDivRound(t *testing.T) {
	cases := [][3]int64{{5, 2, 3}, {-5, 2, -2}, {1, 2, 1}, {-1, 2, 0}, {-3, 2, -1}, {7, 3, 2}, {8, 3, 3}, {-7, 3, -2}, {-8, 3, -3}, {0, 7, 0}, {6, 4, 2}, {-6, 4, -1},
		{7, -2, 0}, {7, 0, 0}, {0, 0, 0}, {math.MinInt64, -1, 0}, {math.MinInt64, 0, 0}, {5, math.MinInt64, 0},
		{math.MinInt64, 1, math.MinInt64}, {math.MaxInt64, 1, math.MaxInt64}, {math.MinInt64, 2, math.MinInt64 / 2}, {math.MaxInt64, 2, 1 << 62},
		{math.MinInt64, 3, -3074457345618258603}, {math.MinInt64, math.MaxInt64, -1}, {math.MaxInt64, math.MaxInt64, 1},
		{math.MaxInt64 / 2, math.MaxInt64, 0}, {math.MaxInt64/2 + 1, math.MaxInt64, 1}, {-math.MaxInt64 / 2, math.MaxInt64, 0}, {-math.MaxInt64/2 - 1, math.MaxInt64, -1}}
	for _, c := range cases {
		check(t, fmt.Sprintf("DivRound(%d, %d)", c[0], c[1]), impl.DivRound(c[0], c[1]), c[2])
	}
	for n := int64(-60); n <= 60; n++ {
		for d := int64(1); d <= 20; d++ {
			check(t, fmt.Sprintf("DivRound(%d, %d)", n, d), impl.DivRound(n, d), roundOf(ratio(n, d)))
		}
	}
	for _, n := range extremeNumbers() {
		for _, d := range extremeNumbers() {
			want := int64(0)
			if d > 0 {
				want = roundOf(ratio(n, d))
			}
			check(t, fmt.Sprintf("DivRound(%d, %d)", n, d), impl.DivRound(n, d), want)
		}
	}
}

// TestTurn is promise 4 for turns: the same for a rotated order, the opposite for a reversed one.
func TestTurn(t *testing.T) {
	check(t, "left", impl.Turn(at(0, 0), at(4, 0), at(4, 3)), 12)
	check(t, "right", impl.Turn(at(0, 0), at(4, 3), at(4, 0)), -12)
	check(t, "on a line", impl.Turn(at(1, 1), at(4, 3), at(-5, -3)), 0)
	check(t, "equal points", impl.Turn(at(2, 2), at(2, 2), at(7, 1)), 0)
	const m = impl.MaxCoord
	check(t, "greatest", impl.Turn(at(-m, -m), at(m, -m), at(m, m)), 4*m*m)
	check(t, "least", impl.Turn(at(-m, -m), at(-m, m), at(m, m)), -4*m*m)
	check(t, "almost on a line", impl.Turn(at(-m, -m), at(m, m), at(m-1, m)), 2*m)
	random := fixedRandom()
	for range 3000 {
		a, b, c := randomPt(random), randomPt(random), randomPt(random)
		// The shoelace formula sums up products of the points themselves, not of differences.
		want := a.X*b.Y - a.Y*b.X + b.X*c.Y - b.Y*c.X + c.X*a.Y - c.Y*a.X
		for _, o := range [][3]pt{{a, b, c}, {b, c, a}, {c, a, b}} {
			check(t, fmt.Sprint("Turn", o), impl.Turn(o[0], o[1], o[2]), want)
			check(t, fmt.Sprint("Turn back", o), impl.Turn(o[2], o[1], o[0]), -want)
		}
	}
}

func TestDistSqAndMidPt(t *testing.T) {
	const m = impl.MaxCoord
	check(t, "DistSq", impl.DistSq(at(0, 0), at(4, 3)), 25)
	check(t, "DistSq of equal points", impl.DistSq(at(-7, 9), at(-7, 9)), 0)
	check(t, "greatest DistSq", impl.DistSq(at(-m, -m), at(m, m)), 8*m*m)
	halves := map[[2]pt]pt{{at(0, 0), at(4, 3)}: at(2, 2), {at(0, 0), at(-4, -3)}: at(-2, -1), {at(-1, 1), at(0, 0)}: at(0, 1), {at(m, -m), at(m-1, 1-m)}: at(m, 1-m),
		{at(m, m), at(m, m)}: at(m, m), {at(-m, -m), at(-m, -m)}: at(-m, -m), {at(m, m), at(-m, -m)}: at(0, 0)}
	for ends, want := range halves {
		for _, o := range [][2]pt{ends, {ends[1], ends[0]}} {
			got, code := impl.MidPt(o[0], o[1])
			check(t, fmt.Sprint("MidPt", o), got, want)
			check(t, fmt.Sprint("code of MidPt", o), code, impl.OK)
		}
	}
	random := fixedRandom()
	for range 2000 {
		a, b := randomPt(random), randomPt(random)
		middle := partWay(a, b, ratio(1, 2))
		got, code := impl.MidPt(a, b)
		check(t, fmt.Sprint("MidPt", a, b), got, at(roundOf(middle.x), roundOf(middle.y)))
		check(t, "code of MidPt", code, impl.OK)
		check(t, fmt.Sprint("DistSq", a, b), ratio(impl.DistSq(a, b), 1).Cmp(exactOf(a).distSq(exactOf(b))), 0)
		check(t, fmt.Sprint("DistSq back", a, b), impl.DistSq(b, a), impl.DistSq(a, b))
	}
}

func TestOnSegment(t *testing.T) {
	const m = impl.MaxCoord
	cases := []struct {
		a, b, p pt
		want    bool
	}{
		{at(0, 0), at(8, 6), at(4, 3), true}, {at(0, 0), at(4, 3), at(8, 6), false}, {at(0, 0), at(4, 3), at(-4, -3), false}, {at(0, 0), at(4, 3), at(2, 1), false},
		{at(0, 0), at(4, 3), at(4, 3), true}, {at(0, 0), at(4, 3), at(0, 0), true}, {at(4, 3), at(4, 3), at(4, 3), true}, {at(4, 3), at(4, 3), at(0, 0), false},
		{at(4, 3), at(4, 3), at(5, 3), false}, {at(5, 1), at(5, 9), at(5, 9), true}, {at(5, 1), at(5, 9), at(5, 10), false}, {at(5, 1), at(5, 9), at(5, 0), false},
		{at(1, 5), at(9, 5), at(10, 5), false}, {at(1, 5), at(9, 5), at(0, 5), false}, {at(1, 5), at(9, 5), at(3, 5), true},
		{at(-m, -m), at(m, m), at(0, 0), true}, {at(-m, -m), at(m, m), at(0, 1), false}, {at(-m, -m), at(m, m-1), at(0, 0), false}, {at(-m, m), at(m, -m), at(m, -m), true},
	}
	for _, c := range cases {
		check(t, fmt.Sprint("OnSegment", c.a, c.b, c.p), impl.OnSegment(c.a, c.b, c.p), c.want)
		check(t, fmt.Sprint("OnSegment", c.b, c.a, c.p), impl.OnSegment(c.b, c.a, c.p), c.want)
	}
	random := fixedRandom()
	for range 3000 {
		l := linePts(random, 3)
		want := nearestOn(l[0], l[1], l[2]).distSq(exactOf(l[2])).Sign() == 0
		check(t, fmt.Sprint("OnSegment", l), impl.OnSegment(l[0], l[1], l[2]), want)
	}
	for _, a := range gridPts(0, 3) {
		for _, b := range gridPts(0, 3) {
			for _, p := range gridPts(-1, 4) {
				want := nearestOn(a, b, p).distSq(exactOf(p)).Sign() == 0
				check(t, fmt.Sprint("OnSegment", a, b, p), impl.OnSegment(a, b, p), want)
			}
		}
	}
}

func TestMeetings(t *testing.T) {
	const m = impl.MaxCoord
	cases := []struct {
		what       string
		a, b, c, d pt
		kind       int64
		p          pt
		code       int64
	}{
		{"cross between points", at(0, 0), at(4, 3), at(0, 3), at(4, 0), impl.MtCross, at(2, 2), impl.OK},
		{"cross below 0", at(0, 0), at(-4, -3), at(0, -3), at(-4, 0), impl.MtCross, at(-2, -1), impl.OK},
		{"cross at halves", at(0, 0), at(1, 1), at(0, 1), at(1, 0), impl.MtCross, at(1, 1), impl.OK},
		{"cross at negative halves", at(0, 0), at(-1, -1), at(0, -1), at(-1, 0), impl.MtCross, at(0, 0), impl.OK},
		{"cross at thirds", at(0, 0), at(2, 2), at(0, 1), at(1, 0), impl.MtCross, at(1, 1), impl.OK},
		{"end at end", at(0, 0), at(4, 0), at(4, 0), at(4, 3), impl.MtTouch, at(4, 0), impl.OK},
		{"end inside", at(0, 0), at(4, 0), at(2, 0), at(2, 7), impl.MtTouch, at(2, 0), impl.OK},
		{"end at end on a line", at(0, 0), at(4, 3), at(4, 3), at(8, 6), impl.MtTouch, at(4, 3), impl.OK},
		{"apart on a line", at(0, 0), at(4, 3), at(8, 6), at(12, 9), impl.MtNone, pt{}, impl.ErrState},
		{"overlap", at(0, 0), at(8, 6), at(4, 3), at(12, 9), impl.MtOverlap, pt{}, impl.ErrState},
		{"one inside the other", at(0, 0), at(12, 9), at(4, 3), at(8, 6), impl.MtOverlap, pt{}, impl.ErrState},
		{"one from the same end", at(0, 0), at(12, 9), at(0, 0), at(8, 6), impl.MtOverlap, pt{}, impl.ErrState},
		{"equal segments", at(0, 0), at(4, 3), at(0, 0), at(4, 3), impl.MtOverlap, pt{}, impl.ErrState},
		{"parallel", at(0, 0), at(4, 3), at(0, 1), at(4, 4), impl.MtNone, pt{}, impl.ErrState},
		{"short of each other", at(0, 0), at(4, 0), at(2, 1), at(2, 7), impl.MtNone, pt{}, impl.ErrState},
		{"point inside", at(4, 3), at(4, 3), at(0, 0), at(8, 6), impl.MtTouch, at(4, 3), impl.OK},
		{"point at an end", at(0, 0), at(0, 0), at(0, 0), at(8, 6), impl.MtTouch, at(0, 0), impl.OK},
		{"point on the line only", at(12, 9), at(12, 9), at(0, 0), at(8, 6), impl.MtNone, pt{}, impl.ErrState},
		{"point beside", at(4, 3), at(4, 3), at(0, 0), at(4, 0), impl.MtNone, pt{}, impl.ErrState},
		{"equal single points", at(4, 3), at(4, 3), at(4, 3), at(4, 3), impl.MtTouch, at(4, 3), impl.OK},
		{"other single points", at(4, 3), at(4, 3), at(4, 4), at(4, 4), impl.MtNone, pt{}, impl.ErrState},
		{"diagonals", at(-m, -m), at(m, m), at(-m, m), at(m, -m), impl.MtCross, at(0, 0), impl.OK},
		{"almost parallel", at(-m, -m), at(m, m), at(-m, 1-m), at(m, m-1), impl.MtCross, at(0, 0), impl.OK},
		{"near miss", at(-m, -m), at(m, m), at(-m, 1-m), at(m-1, m), impl.MtNone, pt{}, impl.ErrState},
	}
	for _, c := range cases {
		check(t, c.what, checkMeeting(t, c.a, c.b, c.c, c.d), c.kind)
		p, code := impl.CrossingOf(c.a, c.b, c.c, c.d)
		check(t, c.what, p, c.p)
		check(t, c.what, code, c.code)
	}
}

// TestMeetingsSmall checks all pairs of segments of a small grid.
func TestMeetingsSmall(t *testing.T) {
	found := map[int64]int{}
	list := gridPts(-2, 1)
	for _, a := range list {
		for i, b := range list {
			for _, c := range list[i:] {
				for _, d := range list[i:] {
					kind := impl.MeetingOf(a, b, c, d)
					if want, _ := exactMeeting(a, b, c, d); kind != want {
						t.Fatalf("MeetingOf(%v, %v, %v, %v): got %d, want %d", a, b, c, d, kind, want)
					}
					found[kind]++
				}
			}
		}
	}
	if len(found) != 4 {
		t.Errorf("the segments of this test do not meet in all ways: %v", found)
	}
}

func TestMeetingsRandom(t *testing.T) {
	found := map[int64]int{}
	random := fixedRandom()
	for range 4000 {
		l := linePts(random, 4)
		found[checkMeeting(t, l[0], l[1], l[2], l[3])]++
		found[checkMeeting(t, randomPt(random), randomPt(random), randomPt(random), randomPt(random))]++
		// An end that is on the other segment, and ends close to it.
		a, b, k := at(random.Int63n(1000)-500, random.Int63n(1000)-500), at(random.Int63n(1000)-500, random.Int63n(1000)-500), random.Int63n(4)-1
		checkMeeting(t, at(3*a.X, 3*a.Y), at(3*b.X, 3*b.Y), at(3*a.X+k*(b.X-a.X), 3*a.Y+k*(b.Y-a.Y)), randomPt(random))
		checkMeeting(t, at(3*a.X, 3*a.Y), at(3*b.X, 3*b.Y), at(3*a.X+k*(b.X-a.X)+1, 3*a.Y+k*(b.Y-a.Y)), randomPt(random))
	}
	corners := cornerPts()
	for range 4000 {
		pick := func() pt { return corners[random.Intn(len(corners))] }
		found[checkMeeting(t, pick(), pick(), pick(), pick())]++
	}
	for kind := int64(impl.MtNone); kind <= impl.MtOverlap; kind++ {
		if found[kind] == 0 {
			t.Errorf("no segments of this test meet in the way %d", kind)
		}
	}
}

// TestCrossingHalves checks crossings exactly between pixels, on all sides of 0.
func TestCrossingHalves(t *testing.T) {
	for x := int64(-9); x <= 9; x++ {
		for y := int64(-9); y <= 9; y++ {
			a, b, c, d := at(x, y), at(x+1, y+1), at(x, y+1), at(x+1, y)
			p, code := impl.CrossingOf(a, b, c, d)
			check(t, fmt.Sprint("crossing of ", a, b, c, d), p, at(x+1, y+1))
			check(t, "code", code, impl.OK)
			checkMeeting(t, a, b, c, d)
			checkMeeting(t, at(x, y), at(x+5, y+5), at(x, y+5), at(x+5, y))
			checkMeeting(t, at(x, y), at(x+3, y), at(x+1, y-1), at(x+2, y+2))
		}
	}
}

func TestNearSegment(t *testing.T) {
	const m = impl.MaxCoord
	cases := []struct {
		a, b, p pt
		r       int64
		want    bool
	}{
		{at(0, 0), at(10, 0), at(5, 3), 3, true}, {at(0, 0), at(10, 0), at(5, 4), 3, false}, {at(0, 0), at(10, 0), at(13, 4), 5, true}, {at(0, 0), at(10, 0), at(13, 4), 4, false},
		{at(0, 0), at(10, 0), at(-3, 4), 5, true}, {at(0, 0), at(10, 0), at(-3, -4), 4, false}, {at(0, 0), at(10, 0), at(5, 0), 0, true}, {at(0, 0), at(10, 0), at(5, 1), 0, false},
		{at(0, 0), at(10, 0), at(11, 0), 0, false}, {at(0, 0), at(10, 0), at(10, 0), 0, true}, {at(2, 2), at(2, 2), at(5, 6), 5, true}, {at(2, 2), at(2, 2), at(5, 6), 4, false},
		{at(2, 2), at(2, 2), at(2, 2), 0, true}, {at(2, 2), at(2, 2), at(2, 3), 0, false}, {at(0, 0), at(4, 3), at(-3, 4), 5, true}, {at(0, 0), at(4, 3), at(1, 7), 5, true},
		{at(0, 0), at(10, 0), at(0, 0), -1, false}, {at(0, 0), at(10, 0), at(0, 0), m + 1, false}, {at(0, 0), at(10, 0), at(0, 0), m, true}, {at(0, 0), at(10, 0), at(0, 0), math.MinInt64, false},
		{at(0, 0), at(10, 0), at(0, 0), math.MaxInt64, false}, {at(0, 0), at(m, m-1), at(m/2, m/2), 1, true}, {at(0, 0), at(m, m-1), at(m/2, m/2), 0, false},
		{at(-m, -m), at(m, -m), at(0, 0), m, true}, {at(-m, -m), at(m, -m), at(0, 1), m, false}, {at(-m, -m), at(m, m), at(-m, m), m, false}, {at(-m, -m), at(m, m), at(-m, 0), m, true},
		{at(-m, -m), at(m, m), at(-m, m-1), m, false}, {at(-m, -m), at(-m, -m), at(m, m), m, false}, {at(-m, -m), at(m, m), at(0, 1), 1, true}, {at(-m, -m), at(m, m), at(0, 2), 1, false},
	}
	for _, c := range cases {
		check(t, fmt.Sprint("NearSegment", c.a, c.b, c.p, c.r), impl.NearSegment(c.a, c.b, c.p, c.r), c.want)
		check(t, fmt.Sprint("NearSegment", c.b, c.a, c.p, c.r), impl.NearSegment(c.b, c.a, c.p, c.r), c.want)
	}
}

// TestNearSegmentExact compares with the real distance; the radius is next to it, so that a product that is cut off would be seen.
func TestNearSegmentExact(t *testing.T) {
	try := func(a, b, p pt) {
		square := nearestOn(a, b, p).distSq(exactOf(p))
		root := new(big.Int).Sqrt(new(big.Int).Div(square.Num(), square.Denom())).Int64()
		for r := max(root-1, 0); r <= min(root+2, impl.MaxCoord); r++ {
			want := square.Cmp(ratio(r*r, 1)) <= 0
			check(t, fmt.Sprint("NearSegment", a, b, p, r), impl.NearSegment(a, b, p, r), want)
			check(t, fmt.Sprint("NearSegment", b, a, p, r), impl.NearSegment(b, a, p, r), want)
		}
	}
	for _, a := range gridPts(0, 3) {
		for _, b := range gridPts(0, 3) {
			for _, p := range gridPts(-1, 4) {
				try(a, b, p)
			}
		}
	}
	random := fixedRandom()
	for range 3000 {
		try(randomPt(random), randomPt(random), randomPt(random))
		a, b := randomPt(random), randomPt(random)
		near := partWay(a, b, ratio(random.Int63n(1000), 999))
		try(a, b, at(roundOf(near.x), roundOf(near.y)))
		k := random.Int63n(10000) + 1
		// Multiples of the sides 3, 4 and 5 have whole distances from a slanted segment.
		try(at(-4*k, -3*k), at(4*k, 3*k), at(-3*k, 4*k))
	}
	for _, a := range cornerPts() {
		for _, b := range cornerPts() {
			for _, p := range cornerPts() {
				try(a, b, p)
			}
		}
	}
}

// closeCalls returns points p and radii r for which the distance of p from the line between 0, 0 and b is r, but for less than a float can tell:
// the turn h and r are convergents h / r of the length of b.
func closeCalls(b pt) (points []pt, radii []int64) {
	square := b.X*b.X + b.Y*b.Y
	root := new(big.Int).Sqrt(big.NewInt(square)).Int64()
	if root*root == square || new(big.Int).GCD(nil, nil, big.NewInt(b.X), big.NewInt(b.Y)).Int64() != 1 {
		return nil, nil
	}
	inverse := new(big.Int).ModInverse(big.NewInt(b.X), big.NewInt(b.Y)).Int64()
	h, before, r, rBefore := root, int64(1), int64(1), int64(0)
	for m, d, next := int64(0), int64(1), root; r <= impl.MaxCoord; {
		// The point with Turn h that is nearest to 0, 0 along the line.
		y := new(big.Int).Mod(new(big.Int).Mul(big.NewInt(h), big.NewInt(inverse)), big.NewInt(b.Y)).Int64()
		x := (b.X*y - h) / b.Y
		steps := (x*b.X + y*b.Y) / square
		for k := steps - 1; k <= steps+1; k++ {
			if p := at(x-k*b.X, y-k*b.Y); impl.ValidPt(p) {
				points, radii = append(points, p), append(radii, r)
			}
		}
		m = d*next - m
		d = (square - m*m) / d
		next = (root + m) / d
		h, before = next*h+before, h
		r, rBefore = next*r+rBefore, r
	}
	return points, radii
}

func TestNearSegmentCloseCalls(t *testing.T) {
	random := fixedRandom()
	found := map[bool]int{}
	for range 2000 {
		a, b := at(0, 0), at(random.Int63n(impl.MaxCoord)+1, random.Int63n(impl.MaxCoord-1)+2)
		points, radii := closeCalls(b)
		for i, p := range points {
			want := nearestOn(a, b, p).distSq(exactOf(p)).Cmp(ratio(radii[i]*radii[i], 1)) <= 0
			check(t, fmt.Sprint("NearSegment", a, b, p, radii[i]), impl.NearSegment(a, b, p, radii[i]), want)
			along, turn := p.X*b.X+p.Y*b.Y, float64(b.X*p.Y-b.Y*p.X)
			if along > 0 && along < b.X*b.X+b.Y*b.Y && turn*turn == float64(radii[i]*radii[i])*float64(b.X*b.X+b.Y*b.Y) {
				found[want]++
			}
		}
	}
	if found[true] == 0 || found[false] == 0 {
		t.Errorf("no point of this test is so close to its radius: %v", found)
	}
}

// TestCompareAround compares with the angles of math.Atan2 where these differ, and with multiples of a vector where they do not.
func TestCompareAround(t *testing.T) {
	angle := func(x, y int64) float64 {
		turn := math.Atan2(float64(y), float64(x))
		if turn < 0 {
			turn += 2 * math.Pi
		}
		return turn
	}
	for _, o := range []pt{at(0, 0), at(10, -7), at(-4, 4), at(1000, 1000)} {
		for _, u := range gridPts(-5, 5) {
			for _, v := range gridPts(-5, 5) {
				a, b := at(o.X+u.X, o.Y+u.Y), at(o.X+v.X, o.Y+v.Y)
				want := int64(0)
				if u != at(0, 0) && v != at(0, 0) {
					// Different directions of so short vectors differ by more than 0.01.
					switch difference := angle(u.X, u.Y) - angle(v.X, v.Y); {
					case difference > 0.01:
						want = 1
					case difference < -0.01:
						want = -1
					}
				}
				check(t, fmt.Sprint("CompareAround", o, a, b), impl.CompareAround(o, a, b), want)
			}
		}
	}
}

// exactAround compares the directions of two vectors by their half turns and, within one, by their cotangents, which fall.
func exactAround(u, v pt) int64 {
	half := func(p pt) int64 {
		if p.Y > 0 || p.Y == 0 && p.X > 0 {
			return 0
		}
		return 1
	}
	if half(u) != half(v) {
		return half(u) - half(v)
	}
	return int64(cotangent(v).Cmp(cotangent(u)))
}

// cotangent returns X / Y, and for the first direction of a half turn a number that is greater than all others.
func cotangent(p pt) *big.Rat {
	if p.Y == 0 {
		return ratio(4*impl.MaxCoord, 1)
	}
	return ratio(p.X, p.Y)
}

func TestCompareAroundFar(t *testing.T) {
	const m = impl.MaxCoord
	list := []pt{at(m, 0), at(m, 1), at(m-1, 1), at(m, m-1), at(m-1, m-2), at(m, m), at(m-2, m-1), at(m-1, m), at(1, m), at(0, m), at(-1, m), at(1-m, m), at(-m, m),
		at(-m, m-1), at(-m, 1), at(-m, 0), at(-m, -1), at(-m, 1-m), at(-m, -m), at(1-m, -m), at(-1, -m), at(0, -m), at(1, -m), at(m, -m), at(m-1, -1), at(m, -1)}
	random := fixedRandom()
	for range 60 {
		if p := randomPt(random); p != at(0, 0) {
			list = append(list, p)
		}
	}
	for _, a := range list {
		for _, b := range list {
			check(t, fmt.Sprint("CompareAround", a, b), impl.CompareAround(at(0, 0), a, b), exactAround(a, b))
		}
	}
	check(t, "whole width", impl.CompareAround(at(-m, -m), at(m, m), at(m-1, m)), -1)
	check(t, "same direction over the whole width", impl.CompareAround(at(-m, -m), at(m, m), at(0, 0)), 0)
	check(t, "opposite direction", impl.CompareAround(at(0, 0), at(m, m), at(-m, -m)), -1)
	check(t, "opposite direction back", impl.CompareAround(at(0, 0), at(-m, -m), at(m, m)), 1)
	check(t, "the same ray", impl.CompareAround(at(5, 5), at(6, 5), at(9, 5)), 0)
	check(t, "a equal to o", impl.CompareAround(at(5, 5), at(5, 5), at(4, 5)), 0)
	check(t, "b equal to o", impl.CompareAround(at(5, 5), at(4, 5), at(5, 5)), 0)
}

// TestInvalidPoints puts a point that is not valid in each place.
func TestInvalidPoints(t *testing.T) {
	good := []pt{at(0, 0), at(4, 3), at(0, 3), at(4, 0)}
	for _, bad := range badPts() {
		for i := range 4 {
			l := slices.Clone(good)
			l[i] = bad
			what := fmt.Sprint(" of ", l)
			check(t, "MeetingOf"+what, impl.MeetingOf(l[0], l[1], l[2], l[3]), -1)
			p, code := impl.CrossingOf(l[0], l[1], l[2], l[3])
			check(t, "CrossingOf"+what, p, pt{})
			check(t, "code of CrossingOf"+what, code, impl.ErrInvalid)
			if i < 3 {
				check(t, "Turn"+what, impl.Turn(l[0], l[1], l[2]), 0)
				check(t, "OnSegment"+what, impl.OnSegment(l[0], l[1], l[2]), false)
				check(t, "NearSegment"+what, impl.NearSegment(l[0], l[1], l[2], impl.MaxCoord), false)
				check(t, "CompareAround"+what, impl.CompareAround(l[0], l[1], l[2]), 0)
			}
			if i < 2 {
				check(t, "DistSq"+what, impl.DistSq(l[0], l[1]), -1)
				p, code := impl.MidPt(l[0], l[1])
				check(t, "MidPt"+what, p, pt{})
				check(t, "code of MidPt"+what, code, impl.ErrInvalid)
			}
		}
		check(t, "PtText", impl.PtText(bad), "")
		check(t, "OnSegment", impl.OnSegment(bad, bad, bad), false)
		check(t, "MeetingOf", impl.MeetingOf(bad, bad, bad, bad), -1)
		check(t, "DistSq", impl.DistSq(bad, bad), -1)
	}
}

func TestPtTexts(t *testing.T) {
	for s, p := range map[string]pt{"-3,4": at(-3, 4), "0,0": at(0, 0), "262144,-262144": at(262144, -262144), "-1,-10": at(-1, -10)} {
		got, ok := impl.ReadPt(s)
		check(t, "ReadPt "+s, got, p)
		check(t, "ReadPt "+s, ok, true)
		check(t, "PtText of "+s, impl.PtText(p), s)
	}
	for _, p := range append(gridPts(-12, 12), cornerPts()...) {
		got, ok := impl.ReadPt(impl.PtText(p))
		check(t, impl.PtText(p), got, p)
		check(t, impl.PtText(p), ok, true)
	}
	for _, s := range append(oddTexts(), "3", "3,", ",3", ",", ",,", "3,4,5", "3,4,", ",3,4", "03,4", "3,04", "3, 4", "3 ,4", " 3,4", "3,4 ", "3,-0", "-0,3", "+3,4", "3,+4",
		"262145,0", "0,262145", "-262145,0", "0,-262145", "3;4", "3.0,4", "3,4\n", "18446744073709551616,0", strings.Repeat("1,", 50000)) {
		got, ok := impl.ReadPt(s)
		check(t, fmt.Sprintf("ReadPt(%.30q)", s), got, pt{})
		check(t, fmt.Sprintf("ReadPt(%.30q)", s), ok, false)
	}
}

// pointResults returns what the functions of chapter 3 return for points, valid or not.
func pointResults(a, b, c, d pt) []any {
	middle, one := impl.MidPt(a, b)
	crossing, two := impl.CrossingOf(a, b, c, d)
	return []any{impl.ValidPt(a), impl.DivRound(a.X, b.Y), impl.Turn(a, b, c), impl.DistSq(a, b), middle, one, impl.OnSegment(a, b, c), impl.MeetingOf(a, b, c, d),
		crossing, two, impl.NearSegment(a, b, c, d.X), impl.CompareAround(a, b, c), impl.PtText(a)}
}

// TestPointsTotal is promise 1 for chapter 3: all functions return for all arguments, twice alike.
func TestPointsTotal(t *testing.T) {
	random := fixedRandom()
	numbers := append(extremeNumbers(), 3, 4, impl.MaxCoord, -impl.MaxCoord, impl.MaxCoord+1, -impl.MaxCoord-1)
	pick := func() pt { return at(numbers[random.Intn(len(numbers))], numbers[random.Intn(len(numbers))]) }
	for range 20000 {
		a, b, c, d := pick(), pick(), pick(), pick()
		if !slices.Equal(pointResults(a, b, c, d), pointResults(a, b, c, d)) {
			t.Fatal("equal arguments have different results: ", a, b, c, d)
		}
	}
}
