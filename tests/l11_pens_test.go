package tests

import (
	"math/rand"
	"slices"
	"testing"

	"loop.example/g00883/impl"
)

// points reads points that are separated by blanks.
func points(text string) []pt {
	var list []pt
	for _, word := range impl.SplitWords(text) {
		p, _ := impl.ReadPt(word)
		list = append(list, p)
	}
	return list
}

func isLower(p, q pt) bool { return p.Y < q.Y || p.Y == q.Y && p.X < q.X }

// leftOf is positive if p is on the left of the way from a to b; unlike Turn, it takes sums of valid points.
func leftOf(a, b, p pt) int64 { return (b.X-a.X)*(p.Y-a.Y) - (b.Y-a.Y)*(p.X-a.X) }

// isBehind reports whether p is on the line from a through b, and is not between them.
func isBehind(a, b, p pt) bool {
	return leftOf(a, b, p) == 0 && ((p.X-b.X)*(b.X-a.X) > 0 || (p.Y-b.Y)*(b.Y-a.Y) > 0)
}

// wantedHull goes from the least point on always to the one that has no other one on its right, or behind it.
func wantedHull(list []pt) []pt {
	least := list[0]
	for _, p := range list {
		if isLower(p, least) {
			least = p
		}
	}
	hull := []pt{least}
	for from := least; ; {
		next := from
		for _, p := range list {
			if p != from && (next == from || leftOf(from, next, p) < 0 || isBehind(from, next, p)) {
				next = p
			}
		}
		if next == least {
			return hull
		}
		hull, from = append(hull, next), next
	}
}

// parabolaPts returns points on a parabola, of which each one is a corner of their hull.
func parabolaPts(n int) []pt {
	list := []pt{at(0, 0)}
	for k := int64(1); len(list) < n; k++ {
		list = append(list, at(k, k*k))
	}
	return list
}

// ringPts returns 400 points, of which each one is a corner of their hull.
func ringPts() []pt {
	list := []pt{at(0, 0)}
	var steps []pt
	for x := range int64(33) {
		for y := range int64(33) {
			if x > 0 && isCoprime(x, y) {
				steps = append(steps, at(x, y))
			}
		}
	}
	slices.SortFunc(steps, func(p, q pt) int { return int(p.Y*q.X - q.Y*p.X) })
	for quarter := range 4 {
		for _, step := range steps[:100] {
			for range quarter {
				step = at(-step.Y, step.X)
			}
			last := list[len(list)-1]
			list = append(list, at(last.X+step.X, last.Y+step.Y))
		}
	}
	return list[:impl.MaxRing]
}

func isCoprime(a, b int64) bool {
	for b != 0 {
		a, b = b, a%b
	}
	return a == 1
}

// randomPen returns a pen; many of them have one or two points, or points on lines.
func randomPen(random *rand.Rand, limit int64) []pt {
	list := []pt{placeIn(random, limit)}
	for range random.Intn(4) * random.Intn(12) {
		list = append(list, placeIn(random, limit))
	}
	if random.Intn(3) == 0 {
		list = list[:min(len(list), 1+random.Intn(3))]
	}
	hull := wantedHull(list)
	return hull[:min(len(hull), impl.MaxPen)]
}

// somePens returns pens of all kinds.
func somePens() [][]pt {
	const m = impl.MaxCoord
	random := fixedRandom()
	list := [][]pt{points("0,0"), points("5,-7"), points("0,0 3,0"), points("0,0 0,3"), points("0,0 3,3"), points("3,0 0,3"), points("-1,-1 2,-1 2,1 -1,1"), points("0,0 4,0 0,4"),
		points("-2,-5 2,-5 5,-2 5,2 2,5 -2,5 -5,2 -5,-2"), {at(m, m)}, {at(-m, -m)}, {at(-m, -m), at(m, m)}, {at(m, -m), at(-m, m)}, {at(-m, -m), at(m, -m), at(m, m), at(-m, m)}, parabolaPts(impl.MaxPen)}
	for range 60 {
		list = append(list, randomPen(random, 4), randomPen(random, int64(4)<<random.Intn(17)))
	}
	return list
}

// badPens returns lists that are not pens, for each reason.
func badPens() [][]pt {
	list := [][]pt{nil, {}, points("0,0 0,0"), points("3,0 0,0"), points("0,3 0,0"), points("3,3 0,0"), points("0,3 3,0"), points("0,0 1,1 2,2"), points("0,0 2,2 1,1"), points("0,0 4,0 4,4 0,0"),
		points("4,0 4,4 0,0"), points("0,0 4,4 4,0"), points("0,0 2,0 4,0 4,4"), points("0,0 4,0 4,4 2,2"), points("0,0 4,0 4,4 0,4 1,1"), points("0,0 4,0 4,0 4,4"), points("0,0 9,0 5,1 9,9"), parabolaPts(impl.MaxPen + 1), ringPts()}
	for _, bad := range badPts() {
		list = append(list, []pt{bad}, []pt{at(0, 0), bad}, []pt{bad, at(0, 0)}, []pt{at(0, 0), at(4, 0), bad}, []pt{at(0, 0), bad, at(0, 4)}, []pt{bad, bad})
	}
	return list
}

func checkHull(t *testing.T, list []pt) {
	t.Helper()
	want := wantedHull(list)
	hull, code := impl.ConvexHull(list)
	check(t, show("ConvexHull", list), show(hull, code), show(want, impl.OK))
	again, code := impl.ConvexHull(hull)
	check(t, show("hull of the hull", list), show(again, code), show(hull, impl.OK))
	check(t, show("IsPen of the hull", hull), impl.IsPen(hull), len(hull) <= impl.MaxPen)
	if len(list) <= impl.MaxPen {
		check(t, show("IsPen", list), impl.IsPen(list), slices.Equal(list, want))
	}
	checkConvex(t, hull, list)
}

// checkConvex is the first half of promise 12: a hull turns left at each point, begins with the least one, consists of some of its points and has all of them on its left.
func checkConvex(t *testing.T, hull, list []pt) {
	t.Helper()
	n := len(hull)
	for i, p := range hull {
		next, after := hull[(i+1)%n], hull[(i+2)%n]
		if !slices.Contains(list, p) || isLower(p, hull[0]) {
			t.Errorf("%v is no corner, or not the least one: %v of %v", p, hull, list)
		}
		if n > 2 && leftOf(p, next, after) <= 0 {
			t.Errorf("the hull %v does not turn left at %v", hull, next)
		}
		for _, q := range list {
			if leftOf(p, next, q) < 0 || n <= 2 && (isLower(q, hull[0]) || isLower(hull[n-1], q)) {
				t.Errorf("the hull %v does not contain %v", hull, q)
			}
		}
	}
}

func TestConvexHull(t *testing.T) {
	const m = impl.MaxCoord
	check(t, "MaxPen", impl.MaxPen, 16)
	cases := [][2]string{
		{"4,4 0,0 2,2 4,0 0,4 2,0 4,4", "0,0 4,0 4,4 0,4"}, {"4,4 0,0 2,2", "0,0 4,4"}, {"4,4 4,4", "4,4"}, {"-3,7", "-3,7"}, {"5,5 5,5 5,5", "5,5"},
		{"0,0 4,0", "0,0 4,0"}, {"4,0 0,0", "0,0 4,0"}, {"0,4 0,0", "0,0 0,4"}, {"0,4 4,0", "4,0 0,4"}, {"0,4 4,0 2,2 1,3", "4,0 0,4"}, {"0,0 9,0 3,0 5,0", "0,0 9,0"}, {"2,-9 2,9 2,0 2,0", "2,-9 2,9"},
		{"0,0 4,4 4,0", "0,0 4,0 4,4"}, {"0,0 4,0 4,4", "0,0 4,0 4,4"}, {"4,0 0,0 4,4 4,0", "0,0 4,0 4,4"}, {"0,1 5,0 9,1", "5,0 9,1 0,1"}, {"1,0 5,0 9,9 3,0 -8,9", "1,0 5,0 9,9 -8,9"},
		{"0,0 4,0 8,0 8,4 8,8 4,8 0,8 0,4 4,4", "0,0 8,0 8,8 0,8"}, {"0,0 8,0 8,8 0,8 7,1", "0,0 8,0 8,8 0,8"}, {"0,0 8,0 8,8 0,8 9,1", "0,0 8,0 9,1 8,8 0,8"}, {"0,-1 1,0 0,1 -1,0 0,0", "0,-1 1,0 0,1 -1,0"},
		{"262144,262144 -262144,262144 262144,-262144 -262144,-262144 0,0", "-262144,-262144 262144,-262144 262144,262144 -262144,262144"}, {"-262144,-262144 262144,262144 1,1", "-262144,-262144 262144,262144"},
		{"-262144,-262144 262144,262144 0,1", "-262144,-262144 262144,262144 0,1"}, {"-262144,-262144 262144,262144 1,0", "-262144,-262144 1,0 262144,262144"}, {"-262144,-262144 262144,262144 262143,262144", "-262144,-262144 262144,262144 262143,262144"},
	}
	for _, c := range cases {
		hull, code := impl.ConvexHull(points(c[0]))
		check(t, "ConvexHull "+c[0], show(hull, code), show(points(c[1]), impl.OK))
		checkHull(t, points(c[0]))
	}
	checkHull(t, ringPts())
	checkHull(t, append(ringPts()[1:], at(0, 0)))
	checkHull(t, slices.Repeat([]pt{at(m, -m)}, impl.MaxRing))
	for _, list := range [][]pt{nil, {}, append(ringPts(), at(50, 50)), slices.Repeat([]pt{at(m, -m)}, impl.MaxRing+1), make([]pt, 100000)} {
		hull, code := impl.ConvexHull(list)
		check(t, show("ConvexHull", len(list)), show(hull, code), show([]pt{}, impl.ErrInvalid))
	}
	for _, bad := range badPts() {
		for i := range 5 {
			list := points("0,0 4,0 4,4 0,4 2,2")
			list[i] = bad
			hull, code := impl.ConvexHull(list)
			check(t, show("ConvexHull", list), show(hull, code), show([]pt{}, impl.ErrInvalid))
		}
	}
}

// TestConvexHullsSmall checks all lists of up to four points of a small grid.
func TestConvexHullsSmall(t *testing.T) {
	grid := gridPts(-1, 1)
	for _, a := range grid {
		checkHull(t, []pt{a})
		for _, b := range grid {
			checkHull(t, []pt{a, b})
			for _, c := range grid {
				checkHull(t, []pt{a, b, c})
				for _, d := range grid {
					checkHull(t, []pt{a, b, c, d})
				}
			}
		}
	}
}

func TestConvexHullsRandom(t *testing.T) {
	random := fixedRandom()
	found := map[int]int{}
	for range 3000 {
		limit := int64(1) << random.Intn(19)
		list := []pt{placeIn(random, limit)}
		for range random.Intn(30) {
			list = append(list, placeIn(random, limit))
		}
		if random.Intn(5) == 0 {
			list = linePts(random, len(list))
		}
		checkHull(t, list)
		hull, _ := impl.ConvexHull(list)
		found[len(hull)]++
		// Neither the order of the points nor one that is given twice makes a difference.
		list = append(list, pick(random, list), pick(random, list))
		random.Shuffle(len(list), func(i, k int) { list[i], list[k] = list[k], list[i] })
		other, code := impl.ConvexHull(list)
		check(t, show("shuffled", list), show(other, code), show(hull, impl.OK))
	}
	for n := 1; n <= 10; n++ {
		if found[n] < 30 {
			t.Errorf("too few hulls of a number of points: %v", found)
		}
	}
}

func TestIsPen(t *testing.T) {
	for _, pen := range somePens() {
		check(t, show("IsPen", pen), impl.IsPen(pen), true)
		for i := range pen {
			check(t, show("with a point twice", pen), impl.IsPen(slices.Insert(slices.Clone(pen), i, pen[i])), false)
			from := append(slices.Clone(pen[i:]), pen[:i]...)
			check(t, show("beginning elsewhere", from), impl.IsPen(from), i == 0)
			if middle := middleOf(pen[i], pen[(i+1)%len(pen)]); len(pen) < impl.MaxPen {
				with := slices.Insert(slices.Clone(pen), i+1, middle)
				check(t, show("with a point between", with), impl.IsPen(with), slices.Equal(wantedHull(with), with))
			}
			if len(pen) > 1 {
				without := slices.Delete(slices.Clone(pen), i, i+1)
				check(t, show("without a corner", without), impl.IsPen(without), slices.Equal(wantedHull(without), without))
			}
		}
		back := slices.Clone(pen)
		slices.Reverse(back)
		check(t, show("backwards", back), impl.IsPen(back), len(pen) == 1)
	}
	for _, bad := range badPens() {
		check(t, show("IsPen", bad), impl.IsPen(bad), false)
	}
	check(t, "most points", impl.IsPen(parabolaPts(16)), true)
	check(t, "too many points", impl.IsPen(parabolaPts(17)), false)
}

// sides returns sides of pens, small ones and those at the limits.
func sides() []int64 {
	list := []int64{impl.MaxCoord, impl.MaxCoord - 1, 99999, 100000}
	for n := range int64(25) {
		list = append(list, n)
	}
	return list
}

func checkPen(t *testing.T, what string, pen []pt, code int64, want []pt) {
	t.Helper()
	check(t, what, show(pen, code), show(want, impl.OK))
	check(t, "IsPen of "+what, impl.IsPen(pen), true)
}

func TestBoxAndOvalPens(t *testing.T) {
	const m = impl.MaxCoord
	cases := []struct {
		w, h      int64
		box, oval string
	}{
		{3, 2, "-1,-1 2,-1 2,1 -1,1", "-1,-1 2,-1 2,1 -1,1"}, {0, 0, "0,0", "0,0"}, {1, 0, "0,0 1,0", "0,0 1,0"}, {0, 1, "0,0 0,1", "0,0 0,1"}, {1, 1, "0,0 1,0 1,1 0,1", "0,0 1,0 1,1 0,1"},
		{0, 5, "0,-2 0,3", "0,-2 0,3"}, {7, 0, "-3,0 4,0", "-3,0 4,0"}, {10, 10, "-5,-5 5,-5 5,5 -5,5", "-2,-5 2,-5 5,-2 5,2 2,5 -2,5 -5,2 -5,-2"},
		{4, 4, "-2,-2 2,-2 2,2 -2,2", "-1,-2 1,-2 2,-1 2,1 1,2 -1,2 -2,1 -2,-1"}, {4, 3, "-2,-1 2,-1 2,2 -2,2", "-2,-1 2,-1 2,2 -2,2"}, {7, 20, "-3,-10 4,-10 4,10 -3,10", "-1,-10 2,-10 4,-4 4,4 2,10 -1,10 -3,4 -3,-4"},
		{m, m, "-131072,-131072 131072,-131072 131072,131072 -131072,131072", "-52429,-131072 52429,-131072 131072,-52429 131072,52429 52429,131072 -52429,131072 -131072,52429 -131072,-52429"},
		{m, 0, "-131072,0 131072,0", "-131072,0 131072,0"}, {0, m - 1, "0,-131071 0,131072", "0,-131071 0,131072"},
	}
	for _, c := range cases {
		box, one := impl.BoxPen(c.w, c.h)
		oval, two := impl.OvalPen(c.w, c.h)
		checkPen(t, show("BoxPen", c.w, c.h), box, one, points(c.box))
		checkPen(t, show("OvalPen", c.w, c.h), oval, two, points(c.oval))
	}
	for _, w := range sides() {
		for _, h := range sides() {
			left, low := -(w / 2), -(h / 2)
			right, high, x, y := left+w, low+h, floorOf(ratio(3*w, 10)), floorOf(ratio(3*h, 10))
			box, one := impl.BoxPen(w, h)
			oval, two := impl.OvalPen(w, h)
			checkPen(t, show("BoxPen", w, h), box, one, wantedHull([]pt{at(left, low), at(right, low), at(left, high), at(right, high)}))
			checkPen(t, show("OvalPen", w, h), oval, two, wantedHull([]pt{at(left+x, low), at(right-x, low), at(left+x, high), at(right-x, high), at(left, low+y), at(right, low+y), at(left, high-y), at(right, high-y)}))
		}
	}
}

func TestSidesOutOfRange(t *testing.T) {
	for _, bad := range append(extremeNumbers(), impl.MaxCoord+1, impl.MaxCoord, -1) {
		for _, good := range []int64{0, 1, 10, impl.MaxCoord} {
			for _, c := range [][2]int64{{bad, good}, {good, bad}, {bad, bad}} {
				due := int64(impl.ErrRange)
				if bad >= 0 && bad <= impl.MaxCoord {
					due = impl.OK
				}
				box, one := impl.BoxPen(c[0], c[1])
				oval, two := impl.OvalPen(c[0], c[1])
				check(t, show("codes", c), show(one, two, len(box) == 0, len(oval) == 0), show(due, due, due != impl.OK, due != impl.OK))
			}
		}
	}
}

// wantedMapped maps a pen point by point.
func wantedMapped(m affine, pen []pt) ([]pt, int64) {
	var list []pt
	for _, p := range pen {
		to, code := exactApply(m, p)
		if code != impl.OK {
			return nil, impl.ErrRange
		}
		list = append(list, to)
	}
	return wantedHull(list), impl.OK
}

func TestMapPen(t *testing.T) {
	const m, most = impl.MaxCoord, impl.MaxNum
	third, _ := impl.ScaleMap(q(1, 3), q(1, 3))
	box, oval := points("-1,-1 2,-1 2,1 -1,1"), points("-2,-5 2,-5 5,-2 5,2 2,5 -2,5 -5,2 -5,-2")
	cases := []struct {
		m    affine
		pen  []pt
		want string
		code int64
	}{
		{impl.IdentityMap(), oval, "-2,-5 2,-5 5,-2 5,2 2,5 -2,5 -5,2 -5,-2", impl.OK}, {impl.QuarterMap(1), box, "-1,-1 1,-1 1,2 -1,2", impl.OK}, {impl.QuarterMap(2), box, "-2,-1 1,-1 1,1 -2,1", impl.OK},
		{whole(-1, 0, 0, 1, 0, 0), box, "-2,-1 1,-1 1,1 -2,1", impl.OK}, {whole(0, 1, 1, 0, 0, 0), box, "-1,-1 1,-1 1,2 -1,2", impl.OK}, {whole(0, 0, 0, 0, 7, 8), box, "7,8", impl.OK}, {whole(1, 0, 0, 0, 0, 3), box, "-1,3 2,3", impl.OK},
		{whole(-1, 0, 0, -1, 0, 0), points("0,0 4,0"), "-4,0 0,0", impl.OK}, {whole(-1, 0, 0, -1, 0, 0), points("3,7"), "-3,-7", impl.OK}, {third, points("0,0 4,0"), "0,0 1,0", impl.OK}, {third, points("0,0 1,0"), "0,0", impl.OK},
		{third, points("0,0 3,1 6,3 3,2"), "0,0 1,0 2,1 1,1", impl.OK}, {third, points("0,0 4,3 6,6 0,6"), "0,0 2,2 0,2", impl.OK}, {third, oval, "-1,-2 1,-2 2,-1 2,1 1,2 -1,2 -2,1 -2,-1", impl.OK}, {whole(m, 0, 0, m, 0, 0), points("0,0 1,0 1,1 0,1"), "0,0 262144,0 262144,262144 0,262144", impl.OK},
		{whole(m+1, 0, 0, 1, 0, 0), points("0,0 1,0"), "", impl.ErrRange}, {whole(m+1, 0, 0, 1, 0, 0), points("-1,0 0,0"), "", impl.ErrRange}, {whole(1, 0, 0, 1, 0, m), points("0,0 0,1"), "", impl.ErrRange},
		{whole(1, 0, 0, 1, 0, m), points("0,-1 0,0"), "0,262143 0,262144", impl.OK}, {whole(most, 0, 0, 1, 0, 0), points("0,0 2,0 1,9"), "", impl.ErrRange},
	}
	for _, c := range cases {
		got, code := impl.MapPen(c.m, c.pen)
		check(t, show("MapPen", c.m, c.pen), show(got, code), show(points(c.want), c.code))
	}
	random := fixedRandom()
	found := map[int64]int{}
	for i := range 4000 {
		by, pen := randomMap(random), randomPen(random, int64(2)<<random.Intn(17))
		if i%2 == 0 {
			by = mapOf([6]frac{q(random.Int63n(41)-20, 10), q(random.Int63n(41)-20, 10), q(random.Int63n(41)-20, 10), q(random.Int63n(41)-20, 10), q(random.Int63n(41)-20, 1), q(random.Int63n(41)-20, 1)})
		}
		if !impl.ValidAffine(by) {
			continue
		}
		want, due := wantedMapped(by, pen)
		got, code := impl.MapPen(by, pen)
		check(t, show("MapPen", by, pen), show(got, code), show(want, due))
		check(t, show("IsPen", got), impl.IsPen(got), code == impl.OK)
		found[due]++
	}
	if found[impl.OK] < 200 || found[impl.ErrRange] < 200 {
		t.Errorf("the pens of this test do not reach all codes: %v", found)
	}
}

func TestReflectPen(t *testing.T) {
	cases := [][2]string{{"-1,-1 2,-1 2,1 -1,1", "-2,-1 1,-1 1,1 -2,1"}, {"3,-7", "-3,7"}, {"0,0", "0,0"}, {"0,0 4,0", "-4,0 0,0"}, {"1,2 3,9", "-3,-9 -1,-2"}, {"0,0 4,0 1,5", "-1,-5 0,0 -4,0"},
		{"-262144,-262144 262144,-262144 0,262144", "0,-262144 262144,262144 -262144,262144"}}
	for _, c := range cases {
		got, code := impl.ReflectPen(points(c[0]))
		checkPen(t, "ReflectPen "+c[0], got, code, points(c[1]))
	}
	for _, pen := range somePens() {
		var list []pt
		for _, p := range pen {
			list = append(list, at(-p.X, -p.Y))
		}
		got, code := impl.ReflectPen(pen)
		checkPen(t, show("ReflectPen", pen), got, code, wantedHull(list))
		back, code := impl.ReflectPen(got)
		checkPen(t, show("ReflectPen twice", pen), back, code, pen)
		turned, code := impl.MapPen(impl.QuarterMap(2), pen)
		checkPen(t, show("half a turn", pen), turned, code, got)
	}
}

func TestPenHas(t *testing.T) {
	const m = impl.MaxCoord
	cases := []struct {
		pen  string
		p    pt
		want bool
	}{
		{"-1,-1 2,-1 2,1 -1,1", at(2, 0), true}, {"-1,-1 2,-1 2,1 -1,1", at(3, 0), false}, {"-1,-1 2,-1 2,1 -1,1", at(0, 0), true}, {"-1,-1 2,-1 2,1 -1,1", at(-1, 1), true}, {"-1,-1 2,-1 2,1 -1,1", at(-1, 2), false},
		{"1,0", at(1, 0), true}, {"1,0", at(1, 1), false}, {"1,0", at(0, 0), false}, {"1,0 4,0", at(2, 0), true}, {"1,0 4,0", at(1, 0), true}, {"1,0 4,0", at(4, 0), true}, {"1,0 4,0", at(5, 0), false}, {"1,0 4,0", at(0, 0), false}, {"1,0 4,0", at(2, 1), false}, {"1,0 4,0", at(2, -1), false},
		{"0,0 4,4", at(3, 3), true}, {"0,0 4,4", at(3, 4), false}, {"0,0 4,4", at(5, 5), false}, {"0,0 4,0 4,4", at(2, 2), true}, {"0,0 4,0 4,4", at(2, 3), false}, {"0,0 4,0 4,4", at(5, 5), false}, {"0,0 4,0 4,4", at(-1, 0), false},
		{"-262144,-262144 262144,262144 0,1", at(0, 0), true}, {"-262144,-262144 262144,262144 0,1", at(1, 1), true}, {"-262144,-262144 262144,262144 0,1", at(1, 0), false}, {"-262144,-262144 262144,262144 0,1", at(-1, 1), false},
		{"262144,262144", at(m, m), true}, {"262144,262144", at(m, m-1), false},
	}
	for _, c := range cases {
		check(t, show("PenHas", c.pen, c.p), impl.PenHas(points(c.pen), c.p), c.want)
	}
	random := fixedRandom()
	found := map[bool]int{}
	for _, pen := range somePens() {
		near := slices.Concat(gridPts(-6, 6), cornerPts())
		for range 50 {
			p, q := pick(random, pen), pick(random, pen)
			near = append(near, middleOf(p, q), at(p.X+random.Int63n(3)-1, p.Y+random.Int63n(3)-1), at(2*p.X-q.X, 2*p.Y-q.Y))
		}
		for _, p := range near {
			// A point is in the polygon exactly if it changes nothing of the hull.
			want := impl.ValidPt(p) && slices.Equal(wantedHull(append(slices.Clone(pen), p)), pen)
			check(t, show("PenHas", pen, p), impl.PenHas(pen, p), want)
			found[want]++
		}
	}
	if found[true] < 1000 || found[false] < 1000 {
		t.Errorf("too few points in pens or outside: %v", found)
	}
	for _, bad := range badPts() {
		for _, pen := range [][]pt{points("-262144,-262144 262144,-262144 262144,262144 -262144,262144"), points("0,0"), points("0,0 262144,0"), {bad}} {
			check(t, show("PenHas", pen, bad), impl.PenHas(pen, bad), false)
		}
	}
	for _, bad := range badPens() {
		for _, p := range append(bad, at(0, 0), at(2, 2), at(50, 50)) {
			check(t, show("PenHas", bad, p), impl.PenHas(bad, p), false)
		}
	}
}

// products returns the scalar products of points with a direction.
func products(list []pt, direction pt) []int64 {
	var all []int64
	for _, p := range list {
		all = append(all, p.X*direction.X+p.Y*direction.Y)
	}
	return all
}

func extentOf(list []pt, direction pt) int64 {
	all := products(list, direction)
	return slices.Max(all) - slices.Min(all)
}

// directions returns directions along axes, across the sides of a pen, which two of its points reach equally, and some others.
func directions(random *rand.Rand, pen []pt) []pt {
	list := append(gridPts(-1, 1), at(impl.MaxCoord, -impl.MaxCoord), at(-impl.MaxCoord, -impl.MaxCoord), at(1, -impl.MaxCoord), randomPt(random), randomPt(random))
	for i, p := range pen {
		next := pen[(i+1)%len(pen)]
		list = append(list, at(next.Y-p.Y, p.X-next.X), at(p.Y-next.Y, next.X-p.X), p)
	}
	return slices.DeleteFunc(list, func(p pt) bool { return p == pt{} || !impl.ValidPt(p) })
}

func TestSupportAndExtent(t *testing.T) {
	const m = impl.MaxCoord
	cases := []struct {
		pen             string
		direction       pt
		support, extent int64
	}{
		{"-1,-1 2,-1 2,1 -1,1", at(1, 1), 2, 5}, {"-1,-1 2,-1 2,1 -1,1", at(0, -3), 0, 6}, {"-1,-1 2,-1 2,1 -1,1", at(2, 1), 2, 8}, {"-1,-1 2,-1 2,1 -1,1", at(1, 0), 1, 3}, {"-1,-1 2,-1 2,1 -1,1", at(0, 1), 2, 2}, {"-1,-1 2,-1 2,1 -1,1", at(-1, 0), 0, 3}, {"-1,-1 2,-1 2,1 -1,1", at(-1, 1), 3, 5},
		{"5,7", at(1, 0), 0, 0}, {"5,7", at(-3, -4), 0, 0}, {"0,0 4,0", at(1, 0), 1, 4}, {"0,0 4,0", at(-1, 0), 0, 4}, {"0,0 4,0", at(0, 1), 0, 0}, {"0,0 4,0", at(0, -1), 0, 0}, {"0,0 4,0", at(3, 100), 1, 12},
		{"-262144,-262144 262144,262144", at(m, m), 1, 4 * m * m}, {"-262144,-262144 262144,262144", at(-m, -m), 0, 4 * m * m}, {"-262144,-262144 262144,262144", at(m, -m), 0, 0}, {"-262144,-262144 262144,262144", at(m, 1-m), 1, 2 * m},
	}
	for _, c := range cases {
		i, one := impl.SupportOf(points(c.pen), c.direction)
		extent, two := impl.ExtentOf(points(c.pen), c.direction)
		check(t, show("support and extent", c.pen, c.direction), show(i, one, extent, two), show(c.support, impl.OK, c.extent, impl.OK))
	}
	random := fixedRandom()
	ties := 0
	for _, pen := range somePens() {
		for _, direction := range directions(random, pen) {
			all := products(pen, direction)
			best := slices.Index(all, slices.Max(all))
			i, one := impl.SupportOf(pen, direction)
			extent, two := impl.ExtentOf(pen, direction)
			check(t, show("support and extent", pen, direction), show(i, one, extent, two), show(best, impl.OK, extentOf(pen, direction), impl.OK))
			if slices.Contains(all[best+1:], all[best]) {
				ties++
			}
		}
	}
	if ties < 100 {
		t.Errorf("only %d directions are across a side", ties)
	}
}

func TestDirectionsOfPens(t *testing.T) {
	checkCode := func(pen []pt, direction pt, due int64) {
		t.Helper()
		i, one := impl.SupportOf(pen, direction)
		extent, two := impl.ExtentOf(pen, direction)
		check(t, show("support and extent", pen, direction), show(i, one, extent, two), show(0, due, 0, due))
	}
	for _, pen := range somePens() {
		checkCode(pen, pt{}, impl.ErrState)
		for _, bad := range badPts() {
			checkCode(pen, bad, impl.ErrInvalid)
		}
	}
	for _, bad := range badPens() {
		for _, direction := range append(badPts(), pt{}, at(1, 0), at(-3, 5)) {
			checkCode(bad, direction, impl.ErrInvalid)
		}
	}
}

// allSums returns the sums of each point of one list and each point of another one.
func allSums(a, b []pt) []pt {
	var list []pt
	for _, p := range a {
		for _, q := range b {
			list = append(list, at(p.X+q.X, p.Y+q.Y))
		}
	}
	return list
}

func TestMinkowskiSum(t *testing.T) {
	cases := []struct {
		a, b, want string
		code       int64
	}{
		{"-1,-1 2,-1 2,1 -1,1", "0,0 5,5", "-1,-1 2,-1 7,4 7,6 4,6 -1,1", impl.OK}, {"-1,-1 2,-1 2,1 -1,1", "0,0", "-1,-1 2,-1 2,1 -1,1", impl.OK}, {"3,4", "-5,6", "-2,10", impl.OK}, {"3,4", "0,0 4,0", "3,4 7,4", impl.OK},
		{"0,0 4,0", "1,1 3,1", "1,1 7,1", impl.OK}, {"0,0 2,4", "0,0 1,2", "0,0 3,6", impl.OK}, {"0,0 4,0", "0,0 0,3", "0,0 4,0 4,3 0,3", impl.OK}, {"0,0 4,0", "0,0 1,1", "0,0 4,0 5,1 1,1", impl.OK}, {"4,0 0,4", "0,0 4,4", "4,0 8,4 4,8 0,4", impl.OK},
		{"-1,-1 2,-1 2,1 -1,1", "-1,-1 2,-1 2,1 -1,1", "-2,-2 4,-2 4,2 -2,2", impl.OK}, {"0,0 4,0 0,4", "0,0 4,0 4,4", "0,0 8,0 8,4 4,8 0,4", impl.OK}, {"0,0 4,0 0,4", "-4,0 0,-4 0,0", "", impl.ErrInvalid}, {"0,0 4,0 0,4", "0,-4 0,0 -4,0", "0,-4 4,-4 4,0 0,4 -4,4 -4,0", impl.OK},
		{"262144,0", "0,-262144", "262144,-262144", impl.OK}, {"262144,0", "1,0", "", impl.ErrRange}, {"-262144,0", "-1,0", "", impl.ErrRange}, {"0,262144", "0,1", "", impl.ErrRange}, {"0,-262144", "0,-1", "", impl.ErrRange},
		{"262143,0", "0,0 1,0", "262143,0 262144,0", impl.OK}, {"262143,0", "0,0 2,0", "", impl.ErrRange}, {"0,262140 4,262140 4,262144 0,262144", "0,0 0,1", "", impl.ErrRange}, {"262144,262144", "262144,262144", "", impl.ErrRange}, {"262144,262144", "-262144,-262144", "0,0", impl.OK},
		{"-262144,-262144 262144,262144", "0,0", "-262144,-262144 262144,262144", impl.OK}, {"-262144,-262144 262144,262144", "0,0 1,0", "", impl.ErrRange}, {"-262144,-262144 262144,262144", "-1,0 0,0", "", impl.ErrRange},
	}
	for _, c := range cases {
		got, code := impl.MinkowskiSum(points(c.a), points(c.b))
		check(t, show("MinkowskiSum", c.a, c.b), show(got, code), show(points(c.want), c.code))
		back, code := impl.MinkowskiSum(points(c.b), points(c.a))
		check(t, show("MinkowskiSum back", c.a, c.b), show(back, code), show(points(c.want), c.code))
	}
	for _, bad := range badPens() {
		for _, other := range append(badPens(), points("0,0"), points("0,0 4,0 0,4"), points("262144,262144")) {
			one, first := impl.MinkowskiSum(bad, other)
			two, second := impl.MinkowskiSum(other, bad)
			check(t, show("MinkowskiSum", bad, other), show(one, first, two, second), show([]pt{}, impl.ErrInvalid, []pt{}, impl.ErrInvalid))
		}
	}
}

// checkExtents is the second half of promise 12: in each direction, a sum extends as far as both pens together.
func checkExtents(t *testing.T, a, b, sum, all []pt) {
	t.Helper()
	for _, direction := range all {
		one, first := impl.ExtentOf(a, direction)
		two, second := impl.ExtentOf(b, direction)
		check(t, show("extents", a, b, direction), show(extentOf(sum, direction), first, second), show(one+two, impl.OK, impl.OK))
		i, first := impl.SupportOf(a, direction)
		k, second := impl.SupportOf(b, direction)
		check(t, show("codes of supports", a, b, direction), show(first, second), show(impl.OK, impl.OK))
		farthest := slices.Max(products(sum, direction))
		check(t, show("supports", a, b, direction), farthest, products(a, direction)[i]+products(b, direction)[k])
		if !impl.IsPen(sum) {
			continue
		}
		both, code := impl.ExtentOf(sum, direction)
		check(t, show("extent of the sum", a, b, direction), show(both, code), show(one+two, impl.OK))
	}
}

func TestExtentsOfSums(t *testing.T) {
	t.Parallel()
	random := fixedRandom()
	pens := somePens()
	found, lengths := map[int64]int{}, map[int]int{}
	for range 2500 {
		a, b := pick(random, pens), pick(random, pens)
		want, due := wantedHull(allSums(a, b)), int64(impl.OK)
		if slices.ContainsFunc(want, func(p pt) bool { return !impl.ValidPt(p) }) {
			want, due = nil, impl.ErrRange
		}
		sum, code := impl.MinkowskiSum(a, b)
		check(t, show("MinkowskiSum", a, b), show(sum, code), show(want, due))
		found[due]++
		if code != impl.OK {
			continue
		}
		lengths[min(len(sum), impl.MaxPen+1)]++
		checkConvex(t, sum, allSums(a, b))
		checkExtents(t, a, b, sum, append(directions(random, a), directions(random, b)...))
	}
	if found[impl.OK] < 500 || found[impl.ErrRange] < 100 || lengths[1] < 10 || lengths[2] < 10 || lengths[4] < 10 || lengths[impl.MaxPen+1] < 20 {
		t.Errorf("the pens of this test do not reach all kinds of sums: %v %v", found, lengths)
	}
}

// TestGreatSum adds up two pens with as many sides as there can be, none of them parallel.
func TestGreatSum(t *testing.T) {
	a := parabolaPts(impl.MaxPen)
	var b []pt
	for _, p := range a {
		b = append(b, at(-2*p.X, 3*p.Y))
	}
	b = wantedHull(b)
	sum, code := impl.MinkowskiSum(a, b)
	check(t, "greatest sum", show(sum, code, len(sum)), show(wantedHull(allSums(a, b)), impl.OK, 2*impl.MaxPen))
	checkConvex(t, sum, allSums(a, b))
	checkExtents(t, a, b, sum, directions(fixedRandom(), append(a, b...)))
}

func TestPensNotValid(t *testing.T) {
	for _, bad := range badPens() {
		for _, m := range append(badMaps(), impl.IdentityMap(), whole(impl.MaxNum, impl.MaxNum, 0, 0, 0, 0)) {
			pen, code := impl.MapPen(m, bad)
			check(t, show("MapPen", m, bad), show(pen, code), show([]pt{}, impl.ErrInvalid))
		}
		pen, code := impl.ReflectPen(bad)
		check(t, show("ReflectPen", bad), show(pen, code), show([]pt{}, impl.ErrInvalid))
	}
	for _, bad := range badMaps() {
		for _, pen := range [][]pt{points("0,0"), points("262144,262144"), points("-1,-1 2,-1 2,1 -1,1")} {
			got, code := impl.MapPen(bad, pen)
			check(t, show("MapPen", bad, pen), show(got, code), show([]pt{}, impl.ErrInvalid))
		}
	}
}

// penResults are what the functions of chapter 11 return for some arguments, valid or not.
type penResults struct {
	hull, box, oval, mapped, back, sum []pt
	support, extent                    int64
	isPen, has                         bool
	codes                              []int64
}

func penResultsOf(a, b []pt, m affine, p pt) penResults {
	var r penResults
	r.codes = make([]int64, 8)
	r.hull, r.codes[0] = impl.ConvexHull(a)
	r.box, r.codes[1] = impl.BoxPen(p.X, p.Y)
	r.oval, r.codes[2] = impl.OvalPen(p.X, p.Y)
	r.mapped, r.codes[3] = impl.MapPen(m, a)
	r.back, r.codes[4] = impl.ReflectPen(a)
	r.sum, r.codes[5] = impl.MinkowskiSum(a, b)
	r.support, r.codes[6] = impl.SupportOf(a, p)
	r.extent, r.codes[7] = impl.ExtentOf(a, p)
	r.isPen, r.has = impl.IsPen(a), impl.PenHas(a, p)
	return r
}

func (r penResults) lists() [][]pt { return [][]pt{r.hull, r.box, r.oval, r.mapped, r.back, r.sum} }

// checkZero holds everything that comes with an error to be 0.
func (r penResults) checkZero(t *testing.T) {
	t.Helper()
	for i, list := range r.lists() {
		check(t, show("empty list", i, r), len(list) == 0, r.codes[i] != impl.OK)
	}
	if r.codes[6] != impl.OK {
		check(t, show("support", r), r.support, 0)
	}
	if r.codes[7] != impl.OK {
		check(t, show("extent", r), r.extent, 0)
	}
}

// TestPensTotal is promise 1 for chapter 11: all functions return for all arguments, twice alike, in new memory, and keep their arguments.
func TestPensTotal(t *testing.T) {
	random := fixedRandom()
	pens, places, numbers := append(badPens(), somePens()...), append(badPts(), cornerPts()...), extremeNumbers()
	maps := append(badMaps(), impl.IdentityMap(), impl.QuarterMap(3), whole(2, 1, 0, 1, 5, 5), whole(0, 0, 0, 0, 0, 0), whole(impl.MaxNum, 0, 0, 1, 0, 0))
	for range 5000 {
		a, b := roomySlice(pick(random, pens), at(77, 77)), roomySlice(pick(random, pens), at(77, 77))
		m, p := pick(random, maps[len(maps)-8:]), pick(random, places)
		if random.Intn(3) == 0 {
			m, p = pick(random, maps), at(pick(random, numbers), pick(random, numbers))
		}
		if random.Intn(9) == 0 && len(a) > 0 {
			a[random.Intn(len(a))] = at(pick(random, numbers), pick(random, numbers))
		}
		memory := func() string { return show(a[:cap(a)], b[:cap(b)]) }
		before := memory()
		first := penResultsOf(a, b, m, p)
		first.checkZero(t)
		shown := show(first)
		check(t, "arguments after all calls", memory(), before)
		for i, list := range first.lists() {
			overwrite(list, at(int64(i), 55))
		}
		for i, list := range first.lists() {
			check(t, "no other result here", len(list) == 0 || list[0] == at(int64(i), 55), true)
		}
		check(t, "arguments after results are overwritten", memory(), before)
		if shown != show(penResultsOf(a, b, m, p)) {
			t.Fatal("equal arguments have different results: ", a, b, m, p)
		}
	}
}
