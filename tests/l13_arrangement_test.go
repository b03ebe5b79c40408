package tests

import (
	"fmt"
	"math/big"
	"math/rand"
	"slices"
	"strings"
	"testing"

	"loop.example/g00883/impl"
)

type ring = impl.Ring

func ringOf(list ...pt) ring { return ring{Points: list} }

// regionOf returns the region with some lines, which may also be one that is not valid.
func regionOf(lines ...string) region {
	var r region
	for _, line := range lines {
		r.Rings = append(r.Rings, ringOf(points(line)...))
	}
	return r
}

// copyOfRegion returns an equal region in other memory.
func copyOfRegion(r region) region {
	var other region
	for _, g := range r.Rings {
		other.Rings = append(other.Rings, ringOf(slices.Clone(g.Points)...))
	}
	return other
}

// edgesOf returns the edges of rings by the words of the document.
func edgesOf(rings ...ring) [][2]pt {
	var list [][2]pt
	for _, g := range rings {
		for i, p := range g.Points {
			next := g.Points[0]
			if i < len(g.Points)-1 {
				next = g.Points[i+1]
			}
			if p != next {
				list = append(list, [2]pt{p, next})
			}
		}
	}
	return list
}

func ringIsValid(g ring) bool {
	isBad := func(p pt) bool { return max(p.X, p.Y) > 262144 || min(p.X, p.Y) < -262144 }
	return 1 <= len(g.Points) && len(g.Points) <= 400 && !slices.ContainsFunc(g.Points, isBad)
}

func regionIsValid(r region) bool {
	isBad := func(g ring) bool { return !ringIsValid(g) }
	return len(r.Rings) <= 40 && !slices.ContainsFunc(r.Rings, isBad) && len(edgesOf(r.Rings...)) <= 400
}

// comb returns a ring with n edges, at least 5, of which none comes near a point of another one.
func comb(n int, x, y int64) ring {
	var list []pt
	for k := range int64(n - 2) {
		list = append(list, at(x+4*k, y+9*(k%2)))
	}
	return ringOf(append(list, at(x+4*int64(n-3), y-20), at(x, y-20))...)
}

// star returns a ring with 400 edges, which cross each other almost 80000 times.
func star() ring {
	corners := ringPts()
	var list []pt
	for k := range corners {
		list = append(list, corners[199*k%len(corners)])
	}
	return ringOf(list...)
}

// sameRings returns a region with a number of equal rings.
func sameRings(count int, line string) region {
	return regionOf(slices.Repeat([]string{line}, count)...)
}

// goodRegions returns regions at the limits and of special shapes.
func goodRegions() []region {
	const m = impl.MaxCoord
	full := comb(400, 0, 0)
	return []region{
		{}, regionOf("0,0"), regionOf("5,5 5,5", "7,7", "0,0 0,0 9,0 9,9 9,9"), regionOf("0,0 4,3 0,3 4,0"), regionOf("0,0 4,0"), regionOf("0,0 4,0", "2,0 6,0"), regionOf("0,0 4,0", "2,0 2,6"), regionOf("0,0 4,0", "4,0 2,6"),
		regionOf("0,0 9,0 9,9 0,9", "2,2 2,7 7,7 7,2"), regionOf("0,0 9,0 9,9 0,9", "5,5 14,5 14,14 5,14"), regionOf("0,0 9,0 9,9 0,9", "0,0 9,0 9,9 0,9", "0,9 9,9 9,0 0,0"), regionOf("0,0 3,0 0,0 3,0", "1,0 1,0"),
		{Rings: []ring{full}}, {Rings: []ring{ringOf(full.Points...), ringOf(at(3, 3)), ringOf(at(1, 1), at(1, 1))}}, {Rings: []ring{comb(200, 0, 0), comb(200, 0, 99)}}, {Rings: []ring{ringOf(slices.Repeat([]pt{at(m, -m)}, 400)...)}},
		sameRings(40, "0,0"), sameRings(40, "0,0 1,0 2,0 3,0 4,0 5,0 6,0 7,0 8,0 9,0"), sameRings(40, repeated("0,0", "0,0", 400)), {Rings: []ring{star()}}, {Rings: []ring{ringOf(ringPts()...)}},
		{Rings: []ring{ringOf(at(-m, -m), at(m, m), at(-m, m), at(m, -m))}}, {Rings: []ring{ringOf(at(-m, -m), at(m, m-1), at(-m, 1-m), at(m, m))}},
	}
}

// badRegions returns regions that are not valid, for each reason.
func badRegions() []region {
	list := []region{{Rings: make([]ring, 1)}, {Rings: make([]ring, 41)}, {Rings: []ring{{Points: []pt{}}}}, regionOf("0,0 1,1", ""), regionOf("", "0,0 1,1"), sameRings(41, "0,0"), sameRings(41, "0,0 0,0"), sameRings(1000, "0,0 4,0 4,4"),
		{Rings: []ring{comb(401, 0, 0)}}, {Rings: []ring{comb(400, 0, 0), ringOf(at(0, 0), at(1, 1))}}, {Rings: []ring{comb(201, 0, 0), comb(200, 0, 99)}}, regionOf("0,0", repeated("0,0", "0,0", 401)), sameRings(40, "0,0 1,0 2,0 3,0 4,0 5,0 6,0 7,0 8,0 9,0 9,1")}
	for _, bad := range badPts() {
		list = append(list, region{Rings: []ring{ringOf(bad)}})
		for i := range 3 {
			g := ringOf(at(0, 0), at(4, 0), at(4, 4))
			g.Points[i] = bad
			list = append(list, region{Rings: []ring{g}}, region{Rings: []ring{ringOf(at(0, 0)), g}}, region{Rings: []ring{g, comb(9, 0, 0)}})
		}
	}
	return list
}

// randomRegion returns a region of a few rings, often with crossings, equal points and edges on one line.
func randomRegion(random *rand.Rand) region {
	limit := int64(2) << random.Intn(6)
	high := limit
	switch random.Intn(5) {
	case 0:
		limit, high = 400, 3
	case 1:
		limit = int64(2) << random.Intn(17)
		high = limit
	}
	var r region
	for range 1 + random.Intn(3) {
		var g ring
		for range 1 + random.Intn(7) {
			p := at(placeIn(random, limit).X, placeIn(random, high).Y)
			g.Points = append(g.Points, slices.Repeat([]pt{p}, 1+random.Intn(6)/5)...)
		}
		r.Rings = append(r.Rings, g)
	}
	return r
}

func manyRegions(count int) []region {
	random, list := fixedRandom(), goodRegions()
	for range count {
		list = append(list, randomRegion(random))
	}
	return list
}

func TestValidRegion(t *testing.T) {
	check(t, "limits", [3]int{impl.MaxRing, impl.MaxRings, impl.MaxEdges}, [3]int{400, 40, 400})
	for _, r := range manyRegions(500) {
		check(t, show("ValidRegion", r), impl.ValidRegion(r), true)
		check(t, show("valid by the rules", r), regionIsValid(r), true)
		for _, g := range r.Rings {
			check(t, show("ValidRing", g), impl.ValidRing(g), true)
		}
	}
	for _, r := range badRegions() {
		check(t, show("ValidRegion", r), impl.ValidRegion(r), false)
		check(t, show("valid by the rules", r), regionIsValid(r), false)
		for _, g := range r.Rings {
			check(t, show("ValidRing", g), impl.ValidRing(g), ringIsValid(g))
		}
	}
	check(t, "a ring with most points", impl.ValidRing(comb(400, 0, 0)), true)
	check(t, "a ring with too many points", impl.ValidRing(comb(401, 0, 0)), false)
	check(t, "no points", impl.ValidRing(ring{}), false)
}

func TestSameRegion(t *testing.T) {
	list := []region{{}, regionOf("0,0"), regionOf("0,0", "0,0"), regionOf("0,0 0,0"), regionOf("1,0"), regionOf("0,1"), regionOf("0,0 4,0 4,4"), regionOf("4,0 4,4 0,0"), regionOf("4,4 4,0 0,0"), regionOf("0,0 4,0", "4,4"), regionOf("4,4", "0,0 4,0"), regionOf(""), regionOf("", ""), regionOf("0,0", ""), regionOf("", "0,0"), {Rings: []ring{ringOf(badPts()[0])}}}
	for i, a := range list {
		for k := range list {
			check(t, show("SameRegion", a, list[k]), impl.SameRegion(a, copyOfRegion(list[k])), i == k)
		}
	}
	check(t, "no rings", impl.SameRegion(region{Rings: []ring{}}, region{}), true)
	check(t, "no points", impl.SameRegion(region{Rings: []ring{{Points: []pt{}}}}, regionOf("")), true)
	for _, r := range append(badRegions(), goodRegions()...) {
		check(t, show("SameRegion", r), impl.SameRegion(r, copyOfRegion(r)), true)
	}
}

func TestEdgeCount(t *testing.T) {
	cases := map[string]int64{"0,0": 0, "0,0 0,0": 0, "0,0 4,0": 2, "0,0 4,0 0,0": 2, "0,0 4,0 4,4": 3, "0,0 0,0 4,0 4,0 4,4 4,4 4,4": 3, "0,0 4,0 4,4 0,0": 3, "0,0 4,0 0,0 4,0": 4, "3,0 3,1 3,0 3,1 3,2": 5}
	for line, want := range cases {
		n, code := impl.EdgeCount(regionOf(line))
		check(t, "EdgeCount "+line, show(n, code), show(want, impl.OK))
		n, code = impl.EdgeCount(regionOf("7,7", line, "0,0 1,0", line))
		check(t, "EdgeCount of rings with "+line, show(n, code), show(2*want+2, impl.OK))
	}
	for _, r := range manyRegions(300) {
		n, code := impl.EdgeCount(r)
		check(t, show("EdgeCount", r), show(n, code), show(len(edgesOf(r.Rings...)), impl.OK))
	}
}

// placesIn returns the parameters of some points of a segment that are in the pixel of p, of one at least if there are any.
// The segment is in the pixel from an end of it, or a line through a side, to another one, or at a single one of these.
func placesIn(a, b, p pt) []*big.Rat {
	all := []*big.Rat{ratio(0, 1), ratio(1, 1)}
	for _, side := range []int64{-1, 1} {
		if a.X != b.X {
			all = append(all, ratio(2*(p.X-a.X)+side, 2*(b.X-a.X)))
		}
		if a.Y != b.Y {
			all = append(all, ratio(2*(p.Y-a.Y)+side, 2*(b.Y-a.Y)))
		}
	}
	all = slices.DeleteFunc(all, func(r *big.Rat) bool { return !unitRange(r) })
	slices.SortFunc(all, (*big.Rat).Cmp)
	for i := range len(all) - 1 {
		sum := new(big.Rat).Add(all[i], all[i+1])
		all = append(all, sum.Quo(sum, ratio(2, 1)))
	}
	return slices.DeleteFunc(all, func(r *big.Rat) bool { return !inPixel(p, partWay(a, b, r)) })
}

func checkPixel(t *testing.T, a, b, p pt) bool {
	t.Helper()
	want := len(placesIn(a, b, p)) > 0
	check(t, show("InPixel", a, b, p), impl.InPixel(a, b, p), want)
	check(t, show("InPixel", b, a, p), impl.InPixel(b, a, p), want)
	return want
}

func TestInPixel(t *testing.T) {
	const m = impl.MaxCoord
	cases := []struct {
		what    string
		a, b, p pt
		want    bool
	}{
		{"through the middle", at(-5, -5), at(5, 5), at(2, 2), true}, {"along the row above", at(-5, 1), at(5, 1), at(0, 0), false}, {"along its row", at(-5, 0), at(5, 0), at(0, 0), true}, {"in its row, but short", at(-5, 0), at(-1, 0), at(0, 0), false},
		{"through the lower left corner only", at(-1, 0), at(0, -1), at(0, 0), true}, {"through the upper right corner only", at(1, 0), at(0, 1), at(0, 0), false}, {"through the lower right corner only", at(0, -1), at(1, 0), at(0, 0), false}, {"through the upper left corner only", at(-1, 0), at(0, 1), at(0, 0), false},
		{"from the middle through the upper right corner", at(0, 0), at(1, 1), at(0, 0), true}, {"into the upper right corner", at(0, 0), at(1, 1), at(1, 1), true}, {"beside that, on the right", at(0, 0), at(1, 1), at(1, 0), false}, {"beside that, above", at(0, 0), at(1, 1), at(0, 1), false},
		{"through the corners of two others", at(0, 1), at(1, 0), at(1, 1), true}, {"through the corners of two others, below", at(0, 1), at(1, 0), at(0, 0), false},
		{"steep through the left end of the lower side", at(-2, 1), at(1, -2), at(0, 0), true}, {"flat through the lower left corner", at(-2, 0), at(1, -1), at(0, 0), true}, {"flat upwards through the upper left corner", at(-2, 0), at(1, 1), at(0, 0), false},
		{"flat through the upper left corner from above", at(-2, 1), at(1, 0), at(0, 0), true}, {"flat through the upper right corner from below", at(-1, 0), at(2, 1), at(0, 0), true}, {"flat above the upper right corner", at(-1, 1), at(2, 0), at(0, 0), false}, {"steep through the lower right corner", at(0, -1), at(1, 2), at(0, 0), true},
		{"steep on the right of the lower right corner", at(0, -2), at(1, 1), at(0, 0), false}, {"a point", at(3, 3), at(3, 3), at(3, 3), true}, {"a point beside", at(3, 3), at(3, 3), at(3, 4), false}, {"a point on the other side", at(3, 3), at(3, 3), at(4, 3), false},
		{"at the limits", at(-m, -m), at(m, m), at(m, m), true}, {"almost a diagonal", at(-m, -m), at(m, m-1), at(0, 0), true}, {"almost a diagonal, into the upper side", at(-m, -m), at(m, m-1), at(0, -1), true}, {"almost a diagonal, above its half", at(-m, -m), at(m, m-1), at(0, 1), false}, {"almost a diagonal, behind its half", at(-m, -m), at(m, m-1), at(1, 0), true},
		{"almost a diagonal, behind its half on the left", at(-m, -m), at(m, m-1), at(-1, 0), false}, {"almost a diagonal, at its end", at(-m, -m), at(m, m-1), at(m, m), false}, {"a flat one at its half", at(-m, 0), at(m, 1), at(0, 1), true}, {"a flat one before its half", at(-m, 0), at(m, 1), at(0, 0), true}, {"a flat one behind its half", at(-m, 0), at(m, 1), at(1, 0), false},
	}
	for _, c := range cases {
		check(t, c.what, impl.InPixel(c.a, c.b, c.p), c.want)
		check(t, c.what+", by the rules", checkPixel(t, c.a, c.b, c.p), c.want)
	}
	for _, bad := range badPts() {
		for _, list := range [][3]pt{{bad, at(0, 0), at(0, 0)}, {at(0, 0), bad, at(0, 0)}, {at(0, 0), at(0, 0), bad}, {bad, bad, bad}, {bad, at(m, m), at(m, m)}, {at(-m, -m), bad, at(-m, -m)}} {
			check(t, show("InPixel", list), impl.InPixel(list[0], list[1], list[2]), false)
		}
	}
}

// TestPixelsSmall checks all segments and pixels of a small grid.
func TestPixelsSmall(t *testing.T) {
	found := map[bool]int{}
	for _, a := range gridPts(-2, 2) {
		for _, b := range gridPts(0, 2) {
			for _, p := range gridPts(-2, 2) {
				found[checkPixel(t, a, b, p)]++
			}
		}
	}
	if found[true] < 500 || found[false] < 500 {
		t.Errorf("too few pixels are met or missed: %v", found)
	}
}

// throughCorner returns the ends of a segment whose line leads through a corner of the pixel of p; most of the segments have the corner between their ends.
func throughCorner(random *rand.Rand, p pt) (pt, pt) {
	odd := func() int64 { return 2*random.Int63n(int64(1)<<random.Intn(9)) + 1 }
	u, v := odd(), odd()
	if random.Intn(2) == 0 {
		v = -v
	}
	// From a corner, half of an odd way leads to points of the grid.
	corner := at(2*p.X+2*random.Int63n(2)-1, 2*p.Y+2*random.Int63n(2)-1)
	k, l := odd(), odd()
	if random.Intn(4) > 0 {
		l = -l
	}
	return at((corner.X+k*u)/2, (corner.Y+k*v)/2), at((corner.X+l*u)/2, (corner.Y+l*v)/2)
}

// TestPixelsAtCorners checks lines that lead exactly through corners, and lines close to them.
func TestPixelsAtCorners(t *testing.T) {
	random := fixedRandom()
	found := map[bool]int{}
	for range 4000 {
		p := placeIn(random, 1000)
		a, b := throughCorner(random, p)
		if random.Intn(3) == 0 {
			b = at(b.X+random.Int63n(3)-1, b.Y+random.Int63n(3)-1)
		}
		if impl.ValidPt(a) && impl.ValidPt(b) {
			found[checkPixel(t, a, b, p)]++
		}
	}
	for range 3000 {
		// Far ends and a pixel near a point of the segment.
		a, b := randomPt(random), randomPt(random)
		near := partWay(a, b, ratio(random.Int63n(1001), 1000)).rounded()
		found[checkPixel(t, a, b, at(near.X+random.Int63n(3)-1, near.Y+random.Int63n(3)-1))]++
	}
	if found[true] < 1000 || found[false] < 1000 {
		t.Errorf("too few pixels are met or missed: %v", found)
	}
}

// orderedPts returns the points of a set, each once.
func orderedPts(list ...pt) []pt {
	all := slices.Clone(list)
	slices.SortFunc(all, func(p, q pt) int {
		switch {
		case isLower(p, q):
			return -1
		case isLower(q, p):
			return 1
		}
		return 0
	})
	return slices.Compact(all)
}

// wantedHot returns the hot points of edges by the words of the document.
func wantedHot(edges [][2]pt) []pt {
	var list []pt
	for i, e := range edges {
		list = append(list, e[0], e[1])
		for _, f := range edges[i+1:] {
			if kind, p := exactMeeting(e[0], e[1], f[0], f[1]); kind == impl.MtCross {
				list = append(list, p.rounded())
			}
		}
	}
	return orderedPts(list...)
}

func TestHotPoints(t *testing.T) {
	cases := []struct{ lines, want string }{
		{"0,0 4,3 0,3 4,0", "0,0 4,0 2,2 0,3 4,3"}, {"0,0", ""}, {"5,5 5,5", ""}, {"0,0 0,0 4,0", "0,0 4,0"}, {"0,0 4,0;2,0 6,0", "0,0 2,0 4,0 6,0"}, {"0,0 4,0;2,0 2,6", "0,0 2,0 4,0 2,6"}, {"0,0 4,0;2,-3 2,6", "2,-3 0,0 2,0 4,0 2,6"}, {"0,0 4,0;7,7;4,0 9,9;3,3 3,3", "0,0 4,0 9,9"},
		{"0,0 1,1;0,1 1,0", "0,0 1,0 0,1 1,1"}, {"0,0 3,3;0,3 3,0", "0,0 3,0 2,2 0,3 3,3"}, {"0,0 -3,-3;0,-3 -3,0", "-3,-3 0,-3 -1,-1 -3,0 0,0"}, {"0,0 8,1;0,1 8,0;4,-3 4,3", "4,-3 0,0 8,0 0,1 4,1 8,1 4,3"}, {"", ""},
	}
	for _, c := range cases {
		r := region{}
		if c.lines != "" {
			r = regionOf(strings.Split(c.lines, ";")...)
		}
		got, code := impl.HotPoints(r)
		check(t, "HotPoints "+c.lines, show(got, code), show(points(c.want), impl.OK))
	}
	crossings := 0
	for _, r := range manyRegions(800) {
		want := wantedHot(edgesOf(r.Rings...))
		got, code := impl.HotPoints(r)
		check(t, show("code of HotPoints", r), code, impl.OK)
		check(t, show("HotPoints", r), slices.Equal(got, want), true)
		crossings += len(want) - len(orderedPts(slices.Concat(pointsOf(r)...)...))
	}
	if crossings < 1000 {
		t.Errorf("only %d hot points are crossings", crossings)
	}
	got, _ := impl.HotPoints(region{Rings: []ring{star()}})
	check(t, "many hot points", len(got) > 10000, true)
}

func pointsOf(r region) [][]pt {
	var lists [][]pt
	for _, g := range r.Rings {
		lists = append(lists, g.Points)
	}
	return lists
}

// wantedWay returns the way of a segment by the words of the document.
func wantedWay(a, b pt, hot []pt) []pt {
	met := map[pt]*big.Rat{}
	var way []pt
	for _, p := range hot {
		if p.X < min(a.X, b.X)-1 || p.X > max(a.X, b.X)+1 || p.Y < min(a.Y, b.Y)-1 || p.Y > max(a.Y, b.Y)+1 {
			continue
		}
		// Pixels have no common points, so that any place in them tells the order.
		if places := placesIn(a, b, p); len(places) > 0 {
			met[p], way = places[0], append(way, p)
		}
	}
	slices.SortFunc(way, func(p, q pt) int { return met[p].Cmp(met[q]) })
	return way
}

func checkWay(t *testing.T, a, b pt, hot []pt) int {
	t.Helper()
	want := wantedWay(a, b, hot)
	got, code := impl.SnapEdge(a, b, hot)
	check(t, show("SnapEdge", a, b, hot), show(got, code), show(want, impl.OK))
	back, code := impl.SnapEdge(b, a, hot)
	slices.Reverse(want)
	check(t, show("SnapEdge", b, a, hot), show(back, code), show(want, impl.OK))
	return len(want)
}

func TestSnapEdge(t *testing.T) {
	const m = impl.MaxCoord
	cases := []struct {
		a, b      pt
		hot, want string
	}{
		{at(0, 0), at(4, 3), "0,0 4,0 2,2 0,3 4,3", "0,0 2,2 4,3"}, {at(4, 3), at(0, 0), "0,0 4,0 2,2 0,3 4,3", "4,3 2,2 0,0"}, {at(0, 0), at(4, 3), "", ""}, {at(0, 0), at(4, 3), "3,2", "3,2"}, {at(0, 0), at(4, 3), "3,1", ""},
		{at(5, 5), at(5, 5), "4,4 5,4 5,5 6,5 5,6", "5,5"}, {at(5, 5), at(5, 5), "4,4 5,4", ""}, {at(0, 0), at(5, 0), "2,-1 0,0 1,0 3,0 5,0 6,0 2,1", "0,0 1,0 3,0 5,0"}, {at(5, 0), at(0, 0), "2,-1 0,0 1,0 3,0 5,0 6,0 2,1", "5,0 3,0 1,0 0,0"},
		{at(0, 5), at(0, 0), "0,-1 0,0 1,1 0,2 0,5 0,6", "0,5 0,2 0,0"}, {at(0, 0), at(3, 3), "0,0 1,0 0,1 1,1 2,1 1,2 2,2 3,3 4,4", "0,0 1,1 2,2 3,3"}, {at(0, 3), at(3, 0), "2,0 3,0 1,1 2,1 0,2 1,2 2,2 0,3", "0,3 1,2 2,2 2,1 3,0"},
		{at(0, 3), at(3, 0), "3,1 2,2 1,3", "1,3 2,2 3,1"}, {at(3, 0), at(0, 3), "2,0 1,1 0,2", ""}, {at(-m, -m), at(m, m), "-262144,-262144 0,0 1,1 262144,262144", "-262144,-262144 0,0 1,1 262144,262144"},
	}
	for _, c := range cases {
		got, code := impl.SnapEdge(c.a, c.b, points(c.hot))
		check(t, show("SnapEdge", c.a, c.b, c.hot), show(got, code), show(points(c.want), impl.OK))
		checkWay(t, c.a, c.b, points(c.hot))
	}
	random := fixedRandom()
	all, lengths := orderedPts(gridPts(-4, 4)...), map[int]int{}
	for range 600 {
		a, b := placeIn(random, 6), placeIn(random, 6)
		lengths[checkWay(t, a, b, all)]++
		some := slices.DeleteFunc(slices.Clone(all), func(pt) bool { return random.Intn(3) == 0 })
		lengths[checkWay(t, a, b, some)]++
	}
	for range 300 {
		a, b := randomPt(random), randomPt(random)
		var hot []pt
		for range random.Intn(20) {
			near := partWay(a, b, ratio(random.Int63n(100001), 100000)).rounded()
			hot = append(hot, at(near.X+random.Int63n(5)/4, near.Y), randomPt(random))
		}
		hot = slices.DeleteFunc(orderedPts(hot...), func(p pt) bool { return !impl.ValidPt(p) })
		lengths[checkWay(t, a, b, hot)]++
	}
	for n := range 8 {
		if lengths[n] < 30 {
			t.Errorf("too few ways of a length: %v", lengths)
		}
	}
}

func TestSnapEdgeInvalid(t *testing.T) {
	checkCode := func(a, b pt, hot []pt) {
		t.Helper()
		got, code := impl.SnapEdge(a, b, hot)
		check(t, show("SnapEdge", a, b, len(hot)), show(got, code), show([]pt{}, impl.ErrInvalid))
	}
	for _, hot := range []string{"1,0 0,0", "0,0 0,0", "0,1 0,0", "0,1 5,0", "0,0 1,0 1,0", "0,0 1,0 0,0", "0,0 1,0 0,1 2,0", "0,0 0,1 0,1 0,2", "4,3 0,0"} {
		checkCode(at(0, 0), at(4, 3), points(hot))
	}
	for _, bad := range badPts() {
		checkCode(bad, at(0, 0), nil)
		checkCode(at(0, 0), bad, nil)
		checkCode(bad, bad, []pt{at(0, 0)})
		checkCode(at(0, 0), at(4, 3), []pt{bad})
		checkCode(at(0, 0), at(4, 3), orderedPts(at(0, 0), at(4, 3), bad))
	}
	checkCode(at(0, 0), at(4, 3), make([]pt, 100000))
	// There is no limit for hot points.
	var list []pt
	for y := range int64(200) {
		for x := range int64(200) {
			list = append(list, at(x, y))
		}
	}
	got, code := impl.SnapEdge(at(0, 0), at(1000, 1000), list)
	check(t, "a way through many points", show(len(got), got[0], got[199], code), show(200, at(0, 0), at(199, 199), impl.OK))
}

// wantedRound returns the region in which edges are replaced by their ways.
func wantedRound(r region, hot []pt) region {
	var next region
	for _, g := range r.Rings {
		var list []pt
		for _, e := range edgesOf(g) {
			way := wantedWay(e[0], e[1], hot)
			list = append(list, way[:len(way)-1]...)
		}
		next.Rings = append(next.Rings, ringOf(list...))
	}
	return next
}

// plainOf returns the region without points that are followed by an equal one, and without rings of which no point remains.
func plainOf(r region) region {
	var plain region
	for _, g := range r.Rings {
		var list []pt
		for i, p := range g.Points {
			if p != g.Points[(i+1)%len(g.Points)] {
				list = append(list, p)
			}
		}
		if len(list) > 0 {
			plain.Rings = append(plain.Rings, ringOf(list...))
		}
	}
	return plain
}

// roundsWith returns a plain region, and what each round with some hot points makes of it, up to one that is not valid.
func roundsWith(plain region, hot []pt) []region {
	all := []region{plain}
	for {
		last := all[len(all)-1]
		next := wantedRound(last, hot)
		if show(next) == show(last) {
			return all
		}
		all = append(all, next)
		if !regionIsValid(next) {
			return all
		}
	}
}

// wantedRounds returns the region without points that are followed by an equal one, and what the rounds lead to.
func wantedRounds(r region) []region {
	plain := plainOf(r)
	return roundsWith(plain, wantedHot(edgesOf(plain.Rings...)))
}

// isSnapped reports whether edges have no common points but one equal end, or the same two ends, by the words of the document.
func isSnapped(r region) bool {
	edges := edgesOf(r.Rings...)
	for i, e := range edges {
		for _, f := range edges[i+1:] {
			kind, p := exactMeeting(e[0], e[1], f[0], f[1])
			ends := [][2]pt{{e[0], f[0]}, {e[0], f[1]}, {e[1], f[0]}, {e[1], f[1]}}
			atEnds := slices.ContainsFunc(ends, func(both [2]pt) bool {
				return both[0] == both[1] && kind != impl.MtNone && kind != impl.MtOverlap && p.equals(exactOf(both[0]))
			})
			same := e == f || e == [2]pt{f[1], f[0]}
			if kind != impl.MtNone && !atEnds && !same {
				return false
			}
		}
	}
	return true
}

// windingAt returns the winding number of a region around q / k, which is on no edge.
func windingAt(r region, q pt, k int64) int64 {
	total := int64(0)
	for _, e := range edgesOf(r.Rings...) {
		a, b := at(k*e[0].X, k*e[0].Y), at(k*e[1].X, k*e[1].Y)
		switch {
		case a.Y <= q.Y && q.Y < b.Y && leftOf(a, b, q) > 0:
			total++
		case b.Y <= q.Y && q.Y < a.Y && leftOf(a, b, q) < 0:
			total--
		}
	}
	return total
}

// isClear reports whether q / k is farther than a distance from all edges.
func isClear(r region, q pt, k, distance int64) bool {
	for _, e := range edgesOf(r.Rings...) {
		if impl.NearSegment(at(k*e[0].X, k*e[0].Y), at(k*e[1].X, k*e[1].Y), q, k*distance) {
			return false
		}
	}
	return true
}

// checkMoves holds a region and what one round makes of it: no edge moves by more than 1, and winding numbers only change that near to edges.
// It returns how many places with a winding number it has compared.
func checkMoves(t *testing.T, random *rand.Rand, before, after region, hot []pt) int {
	t.Helper()
	k := int64(3)
	for _, e := range edgesOf(before.Rings...) {
		way, code := impl.SnapEdge(e[0], e[1], hot)
		check(t, show("code of SnapEdge", e, hot), code, impl.OK)
		for _, p := range way {
			check(t, show("near the edge", e, p), impl.NearSegment(e[0], e[1], p, 1), true)
		}
		if sizeOf(e[0]) > 80000 {
			k = 1
		}
	}
	return checkWindings(t, random, before, after, k, 1)
}

func checkWindings(t *testing.T, random *rand.Rand, before, after region, k, distance int64) int {
	t.Helper()
	places := slices.Concat(pointsOf(before)...)
	compared := 0
	for range 30 {
		if len(places) == 0 {
			break
		}
		// A point of the triangle of three corners is often inside.
		a, b, c := pick(random, places), pick(random, places), pick(random, places)
		p := partWay(middleOf(a, b), c, ratio(random.Int63n(101), 100))
		q := p.times(k).rounded()
		if !isClear(before, q, k, distance) {
			continue
		}
		want := windingAt(before, q, k)
		check(t, show("winding number", before, after, q, k), windingAt(after, q, k), want)
		if want != 0 {
			compared++
		}
	}
	return compared
}

// snapCounts are what the regions of a test have reached.
type snapCounts struct {
	rounds, codes map[int64]int
	places        int
}

func newSnapCounts() snapCounts { return snapCounts{rounds: map[int64]int{}, codes: map[int64]int{}} }

// checkSnap holds SnapRegion against the words of the document, and against its guarantees, which are promise 14.
func (c *snapCounts) checkSnap(t *testing.T, random *rand.Rand, r region) {
	t.Helper()
	all := wantedRounds(r)
	last, rounds, due := all[len(all)-1], int64(len(all)-1), int64(impl.OK)
	if !regionIsValid(last) {
		last, rounds, due = region{}, 0, impl.ErrFull
	}
	got, count, code := impl.SnapRegion(r)
	check(t, show("SnapRegion", r), show(got, count, code), show(last, rounds, due))
	c.codes[code]++
	if code != impl.OK {
		return
	}
	c.rounds[rounds]++
	check(t, show("IsSnapped", got), impl.IsSnapped(got), true)
	check(t, show("snapped by the rules", got), isSnapped(got), true)
	again, count, code := impl.SnapRegion(got)
	check(t, show("SnapRegion again", got), show(again, count, code), show(got, 0, impl.OK))
	hot := wantedHot(edgesOf(all[0].Rings...))
	for i := range rounds {
		c.places += checkMoves(t, random, all[i], all[i+1], hot)
	}
	c.places += checkWindings(t, random, r, got, 1, rounds)
}

func TestSnapRegion(t *testing.T) {
	cases := []struct {
		lines, want string
		rounds      int64
	}{
		{"0,0 4,3 0,3 4,0", "0,0 2,2 4,3 0,3 2,2 4,0", 1}, {"5,5 5,5;7,7;0,0 0,0 9,0 9,9 9,9", "0,0 9,0 9,9", 0}, {"5,5", "", 0}, {"5,5;5,5 5,5 5,5", "", 0}, {"", "", 0}, {"0,0 4,0", "0,0 4,0", 0}, {"0,0 4,0 0,0", "0,0 4,0", 0}, {"0,0 4,0 4,4 0,0", "0,0 4,0 4,4", 0},
		{"0,0 0,0 4,0 4,0 4,0 0,0", "0,0 4,0", 0}, {"0,0 4,0;2,0 6,0", "0,0 2,0 4,0 2,0;2,0 4,0 6,0 4,0", 1}, {"0,0 4,0;2,0 2,6", "0,0 2,0 4,0 2,0;2,0 2,6", 1}, {"0,0 4,0;2,0;1,0 1,0", "0,0 4,0", 0}, {"0,0 4,4;1,1;7,7 9,9", "0,0 4,4;7,7 9,9", 0},
		{"0,0 9,0 9,9 0,9;5,5 14,5 14,14 5,14", "0,0 9,0 9,5 9,9 5,9 0,9;5,5 9,5 14,5 14,14 5,14 5,9", 1}, {"0,0 1,1;0,1 1,0", "0,0 1,1;0,1 1,1 1,0 1,1", 1}, {"0,0 2,1;1,1 1,5", "0,0 1,1 2,1 1,1;1,1 1,5", 1}, {"0,0 2,-1;1,-1 1,-5", "0,0 1,-1 2,-1 1,-1;1,-1 1,-5", 1}, {"0,0 2,-1;1,0 1,5", "0,0 1,0 2,-1 1,0;1,0 1,5", 1},
		{"0,0 3,0 0,0 3,0", "0,0 3,0 0,0 3,0", 0}, {"0,0 6,0 2,0 4,0", "0,0 2,0 4,0 6,0 4,0 2,0 4,0 2,0", 1},
		{"0,1 1,0;0,0 -5,-5", "0,1 1,0;0,0 -5,-5", 0}, {"0,1 1,0;1,1 5,5", "0,1 1,1 1,0 1,1;1,1 5,5", 1}, {"18,2 12,2 16,2 0,0", "18,2 16,2 12,2 16,2 12,2 0,0 12,2 16,2", 2}, {"8,3 1,4 14,0;18,0 7,3 18,4", "8,3 7,3 1,4 7,3 8,3 9,2 14,0 9,2;18,0 9,2 8,3 7,3 8,3 18,4", 3},
		{"14,2 4,1;14,0 2,3 7,1 5,1", "14,2 8,1 7,1 6,1 5,1 4,1 5,1 6,1 7,1 8,1;14,0 8,1 7,1 6,1 5,1 4,1 2,3 4,1 5,1 6,1 7,1 6,1 5,1 6,1 7,1 8,1", 5},
	}
	counts, random := newSnapCounts(), fixedRandom()
	for _, c := range cases {
		var list [2]region
		for i, lines := range []string{c.lines, c.want} {
			if lines != "" {
				list[i] = regionOf(strings.Split(lines, ";")...)
			}
		}
		got, rounds, code := impl.SnapRegion(list[0])
		check(t, "SnapRegion "+c.lines, show(got, rounds, code), show(list[1], c.rounds, impl.OK))
		counts.checkSnap(t, random, list[0])
	}
	for _, r := range badRegions() {
		got, rounds, code := impl.SnapRegion(r)
		check(t, show("SnapRegion", r), show(got, rounds, code), show(region{}, 0, impl.ErrInvalid))
		hot, code := impl.HotPoints(r)
		check(t, show("HotPoints", r), show(hot, code), show([]pt{}, impl.ErrInvalid))
		n, code := impl.EdgeCount(r)
		check(t, show("EdgeCount", r), show(n, code), show(0, impl.ErrInvalid))
	}
}

// TestSnapRegionsSmall checks all pairs of segments of a small grid, and all rings of four points of it.
func TestSnapRegionsSmall(t *testing.T) {
	t.Parallel()
	counts, random := newSnapCounts(), fixedRandom()
	grid := gridPts(0, 2)
	for i, a := range grid {
		for k, b := range grid {
			for l, c := range grid {
				for n, d := range grid {
					if i < l && k%2 == n%2 {
						counts.checkSnap(t, random, region{Rings: []ring{ringOf(a, b), ringOf(c, d)}})
					}
					if i < min(k, l, n) {
						counts.checkSnap(t, random, region{Rings: []ring{ringOf(a, b, c, d)}})
					}
				}
			}
		}
	}
	if counts.rounds[0] < 100 || counts.rounds[1] < 100 {
		t.Errorf("too few regions with a number of rounds: %v", counts)
	}
}

func TestSnapRegionsRandom(t *testing.T) {
	t.Parallel()
	counts, random := newSnapCounts(), fixedRandom()
	for range 900 {
		counts.checkSnap(t, random, randomRegion(random))
	}
	if counts.rounds[0] < 100 || counts.rounds[1] < 100 || counts.rounds[2] < 50 || counts.rounds[3] < 10 || counts.places < 3000 {
		t.Errorf("the regions of this test do not reach all kinds of results: %v", counts)
	}
}

// bowTies returns rings with 4 edges, which become 6.
func bowTies(count int) []ring {
	var list []ring
	for k := range int64(count) {
		list = append(list, ringOf(at(10*k, 0), at(10*k+4, 3), at(10*k, 3), at(10*k+4, 0)))
	}
	return list
}

// TestSnapRegionLimits is about the number of edges after each round.
func TestSnapRegionLimits(t *testing.T) {
	t.Parallel()
	inRow := ringOf(points("0,0 1,0 2,0 3,0 4,0 5,0 6,0 7,0 8,0 9,0")...)
	twice := func(more int) region {
		return region{Rings: []ring{ringOf(points("18,2 12,2 16,2 0,0")...), comb(more, 50, 50)}}
	}
	cases := []struct {
		what          string
		r             region
		edges, rounds int
		code          int64
	}{
		{"as many edges as may be", region{Rings: []ring{comb(400, 0, 0)}}, 400, 0, impl.OK},
		{"as many edges of several rings", region{Rings: []ring{comb(200, 0, 0), ringOf(at(5, 5)), comb(200, 0, 99)}}, 400, 0, impl.OK},
		{"a round to as many edges as may be", region{Rings: append(bowTies(39), comb(166, 0, 99))}, 400, 1, impl.OK},
		{"a round to one more", region{Rings: append(bowTies(39), comb(167, 0, 99))}, 401, 0, impl.ErrFull},
		{"a round to one more, first the great ring", region{Rings: append([]ring{comb(167, 0, 99)}, bowTies(39)...)}, 401, 0, impl.ErrFull},
		{"a round of as many rings as may be", region{Rings: bowTies(40)}, 240, 1, impl.OK},
		{"a second round to as many edges as may be", twice(392), 400, 2, impl.OK},
		{"a second round to one more", twice(393), 401, 0, impl.ErrFull},
		{"a first round to one more", twice(394), 401, 0, impl.ErrFull},
		{"a ring that becomes longer", region{Rings: []ring{inRow}}, 18, 1, impl.OK},
		{"many rings on one line", region{Rings: slices.Repeat([]ring{inRow}, 22)}, 396, 1, impl.OK},
		{"more rings on one line", region{Rings: slices.Repeat([]ring{inRow}, 23)}, 414, 0, impl.ErrFull},
		{"many rings with equal points only", sameRings(40, repeated("0,0", "0,0", 400)), 0, 0, impl.OK},
		{"many corners", region{Rings: []ring{ringOf(ringPts()...)}}, 400, 0, impl.OK},
	}
	counts, random := newSnapCounts(), fixedRandom()
	for _, c := range cases {
		all := wantedRounds(c.r)
		check(t, c.what+": edges", len(edgesOf(all[len(all)-1].Rings...)), c.edges)
		got, rounds, code := impl.SnapRegion(c.r)
		check(t, c.what, show(rounds, code), show(c.rounds, c.code))
		check(t, c.what+": no region with an error", code == impl.OK || len(got.Rings) == 0, true)
		counts.checkSnap(t, random, c.r)
	}
	got, rounds, code := impl.SnapRegion(region{Rings: []ring{star()}})
	check(t, "many crossings", show(got, rounds, code), show(region{}, 0, impl.ErrFull))
}

func TestIsSnapped(t *testing.T) {
	cases := map[string]bool{
		"0,0 4,0;0,0 4,0": true, "0,0 4,0;2,0 6,0": false, "0,0 4,0;2,0 2,6": false, "0,0 4,0;4,0 2,6": true, "0,0 4,3 0,3 4,0": false, "0,0": true, "5,5 5,5;5,5": true, "0,0 4,0;2,0;3,0 3,0": true, "0,0 0,0 4,0": true, "0,0 4,0 2,0": false, "0,0 2,0 4,0 2,0": true,
		"0,0 4,0;1,0 3,0": false, "0,0 4,0;0,0 2,0": false, "0,0 4,0;0,0 -2,0": true, "0,0 4,0;4,0 8,0": true, "0,0 4,0;5,0 8,0": true, "0,0 4,0;2,-3 2,3": false, "0,0 4,0;2,1 2,3": true, "0,0 4,0;4,0 0,0": true, "0,0 2,1;1,1 1,5": true, "0,0 4,4 4,0": true, "0,0 4,0 4,4 0,4;0,0 4,4": true, "0,0 4,0 4,4 0,4;1,1 3,1 3,3": true,
		"0,0 4,0 4,4 0,4;1,1 5,1 3,3": false, "0,0 3,3 3,0 0,3": false, "0,0 4,2;2,1 4,0": false, "0,0 262144,262144;-262144,262144 0,0": true, "-262144,-262144 262144,262144;-262144,262144 0,0": false, "-262144,-262144 262144,262144;-262144,262144 -1,0": true,
	}
	for lines, want := range cases {
		r := regionOf(strings.Split(lines, ";")...)
		check(t, "IsSnapped "+lines, impl.IsSnapped(r), want)
		check(t, "snapped by the rules "+lines, isSnapped(r), want)
	}
	check(t, "no rings", impl.IsSnapped(region{}), true)
	for _, bad := range badRegions() {
		check(t, show("IsSnapped", bad), impl.IsSnapped(bad), false)
	}
	for _, r := range goodRegions() {
		check(t, show("IsSnapped", r), impl.IsSnapped(r), isSnapped(r))
	}
	found, random := map[bool]int{}, fixedRandom()
	grid := gridPts(0, 3)
	for range 6000 {
		r := region{Rings: []ring{ringOf(pick(random, grid), pick(random, grid)), ringOf(pick(random, grid), pick(random, grid))}}
		if random.Intn(2) == 0 {
			r.Rings[1].Points = append(r.Rings[1].Points, pick(random, grid))
		}
		want := isSnapped(r)
		check(t, show("IsSnapped", r), impl.IsSnapped(r), want)
		found[want]++
	}
	if found[true] < 500 || found[false] < 500 {
		t.Errorf("too few regions are snapped or not: %v", found)
	}
}

func TestJoinRegions(t *testing.T) {
	full, half := region{Rings: []ring{comb(400, 0, 0)}}, region{Rings: []ring{comb(200, 0, 0)}}
	one, dots := regionOf("0,0 1,1"), sameRings(39, "3,3")
	cases := []struct {
		what string
		a, b region
		code int64
	}{
		{"two squares", regionOf("0,0 4,0 4,4 0,4"), regionOf("2,2 6,2 6,6 2,6"), impl.OK}, {"several rings", regionOf("0,0", "1,1 1,1", "5,0 4,0"), regionOf("7,7 8,8", "5,0 4,0"), impl.OK}, {"nothing", region{}, region{}, impl.OK}, {"nothing first", region{}, one, impl.OK}, {"nothing last", one, region{}, impl.OK},
		{"most edges", half, region{Rings: []ring{comb(200, 3, 3)}}, impl.OK}, {"too many edges", half, region{Rings: []ring{comb(201, 3, 3)}}, impl.ErrFull}, {"most edges, and none", full, region{}, impl.OK}, {"most edges, and a point", full, regionOf("0,0"), impl.OK}, {"most edges, and more", full, one, impl.ErrFull}, {"more, and most edges", one, full, impl.ErrFull},
		{"most rings", dots, one, impl.OK}, {"most rings, first the small region", one, dots, impl.OK}, {"too many rings", dots, regionOf("0,0", "1,1"), impl.ErrFull}, {"twice most rings", sameRings(40, "0,0"), sameRings(40, "0,0"), impl.ErrFull}, {"most rings, and nothing", sameRings(40, "0,0"), region{}, impl.OK},
		{"one that is not valid", regionOf(""), one, impl.ErrInvalid}, {"the other one is not valid", one, regionOf(""), impl.ErrInvalid}, {"one that is not valid, and too many", regionOf(""), full, impl.ErrInvalid}, {"too many rings to begin with", sameRings(41, "0,0"), region{}, impl.ErrInvalid},
	}
	for _, c := range cases {
		want := region{}
		if c.code == impl.OK {
			want.Rings = append(slices.Clone(c.a.Rings), c.b.Rings...)
		}
		got, code := impl.JoinRegions(c.a, c.b)
		check(t, c.what, show(got, code), show(want, c.code))
	}
	for _, bad := range badRegions() {
		for _, other := range append(badRegions(), region{}, full, one) {
			got, first := impl.JoinRegions(bad, other)
			back, second := impl.JoinRegions(other, bad)
			check(t, "regions that are not valid", show(got, first, back, second), show(region{}, impl.ErrInvalid, region{}, impl.ErrInvalid))
		}
	}
	random, list := fixedRandom(), manyRegions(300)
	for range 500 {
		a, b := pick(random, list), pick(random, list)
		want, due := region{Rings: slices.Concat(a.Rings, b.Rings)}, int64(impl.OK)
		if !regionIsValid(want) {
			want, due = region{}, impl.ErrFull
		}
		got, code := impl.JoinRegions(a, b)
		check(t, show("JoinRegions", a, b), show(got, code), show(want, due))
	}
}

// wantedReading reads a text of a region by the rules of the document.
func wantedReading(s string) (region, bool) {
	var r region
	for s != "" {
		line, rest, ended := strings.Cut(s, "\n")
		if !ended {
			return region{}, false
		}
		var g ring
		for _, word := range strings.Split(line, " ") {
			p, ok := wantedPt(word)
			if !ok {
				return region{}, false
			}
			g.Points = append(g.Points, p)
		}
		r.Rings, s = append(r.Rings, g), rest
	}
	if !regionIsValid(r) {
		return region{}, false
	}
	return r, true
}

func checkReadRegion(t *testing.T, s string) bool {
	t.Helper()
	got, ok := impl.ReadRegion(s)
	want, wanted := wantedReading(s)
	check(t, fmt.Sprintf("ReadRegion(%.80q)", s), show(got, ok), show(want, wanted))
	if ok {
		check(t, fmt.Sprintf("RegionText of %.80q", s), impl.RegionText(got), s)
	}
	return ok
}

func TestRegionTexts(t *testing.T) {
	check(t, "text", impl.RegionText(regionOf("0,0 8,0 8,-8", "-1,0 4,0 4,4", "5,5")), "0,0 8,0 8,-8\n-1,0 4,0 4,4\n5,5\n")
	check(t, "text of equal points", impl.RegionText(regionOf("5,5 5,5")), "5,5 5,5\n")
	check(t, "text of nothing", impl.RegionText(region{}), "")
	check(t, "nothing is read", checkReadRegion(t, ""), true)
	for _, r := range manyRegions(500) {
		got, ok := impl.ReadRegion(impl.RegionText(r))
		check(t, show("ReadRegion of the text of ", r), show(got, ok), show(r, true))
		check(t, show("read by the rules", r), checkReadRegion(t, impl.RegionText(r)), true)
	}
	for _, bad := range badRegions() {
		check(t, show("RegionText", bad), impl.RegionText(bad), "")
	}
}

func TestReadRegionOthers(t *testing.T) {
	for _, s := range append(oddTexts()[1:], "0,0", "\n", "\n\n", "0,0  1,1\n", "0,0\n\n", "\n0,0\n", "0,0\n\n1,1\n", "0,0\n1,1", "0,0 \n", " 0,0\n", "0,0\r\n", "0,0\t1,1\n", "~0,0\n", "0,0 ~1,1\n", "0,0 x\n", "x 0,0\n", "x\n", "0,0\nx\n", "0,0 1\n", "0,0 1,1,1\n", "0,0 01,1\n", "0,0 1,-0\n", "0,0 262145,0\n", "0,0 0,-262145\n", "0,0 +1,1\n", "0,0\x00\n", "0,0\n ", "0,0\n\x00", "0,0;1,1\n",
		repeated("0,0", "0,0", 401)+"\n", repeated("0,0", "1,1 0,0", 401)+"\n", strings.Repeat("0,0\n", 41), strings.Repeat("0,0\n", 40)+"\n", strings.Repeat("0,0\n", 100000), strings.Repeat("\n", 100000), strings.Repeat("0,0 ", 100000)+"\n", strings.Repeat(strings.TrimSpace(strings.Repeat("0,0 0,1 ", 6))+"\n", 40)) {
		check(t, fmt.Sprintf("is read: %.80q", s), checkReadRegion(t, s), false)
	}
	for _, s := range []string{"0,0\n", "0,0 0,0\n", strings.Repeat("0,0\n", 40), repeated("0,0", "0,0", 400) + "\n", strings.Repeat(repeated("0,0", "0,0", 400)+"\n", 40), strings.Repeat(strings.TrimSpace(strings.Repeat("0,0 0,1 ", 5))+"\n", 40), "262144,-262144 -262144,262144\n"} {
		check(t, fmt.Sprintf("is read: %.80q", s), checkReadRegion(t, s), true)
	}
	read := 0
	for _, text := range []string{"0,0 8,0 12,-5\n0,0 4,10 4,4\n", "7,7\n-1,-1 0,0\n262144,0 0,-262144\n"} {
		for _, s := range edited(text, " -,0123~\n", "", "1,1", "x", "\n", "5,5\n6,6", "262145,0") {
			if checkReadRegion(t, s) {
				read++
			}
		}
	}
	if read < 200 {
		t.Errorf("only %d texts are read", read)
	}
}

// arrangementArguments are arguments of the functions of chapter 13, valid or not.
type arrangementArguments struct {
	r, other region
	a, b, p  pt
	hot      []pt
	text     string
}

// arrangementResults are what these functions return.
type arrangementResults struct {
	valid, validRing, sames, inPixel, snapped, ok bool
	edges, rounds                                 int64
	hot, way                                      []pt
	snap, joined, read                            region
	text                                          string
	codes                                         []int64
}

func arrangementResultsOf(a arrangementArguments) arrangementResults {
	var r arrangementResults
	r.codes = make([]int64, 5)
	r.edges, r.codes[0] = impl.EdgeCount(a.r)
	r.hot, r.codes[1] = impl.HotPoints(a.r)
	r.way, r.codes[2] = impl.SnapEdge(a.a, a.b, a.hot)
	r.snap, r.rounds, r.codes[3] = impl.SnapRegion(a.r)
	r.joined, r.codes[4] = impl.JoinRegions(a.r, a.other)
	r.valid, r.sames, r.inPixel, r.snapped, r.text = impl.ValidRegion(a.r), impl.SameRegion(a.r, a.other), impl.InPixel(a.a, a.b, a.p), impl.IsSnapped(a.r), impl.RegionText(a.r)
	r.validRing = len(a.r.Rings) > 0 && impl.ValidRing(a.r.Rings[0])
	r.read, r.ok = impl.ReadRegion(a.text)
	return r
}

// checkZero holds everything that comes with an error to be 0.
func (r arrangementResults) checkZero(t *testing.T) {
	t.Helper()
	zero := []bool{r.edges == 0, len(r.hot) == 0, len(r.way) == 0, len(r.snap.Rings) == 0 && r.rounds == 0, len(r.joined.Rings) == 0}
	for i, code := range r.codes {
		if code != impl.OK && !zero[i] {
			t.Errorf("result %d is not 0 though the code is %d: %+v", i, code, r)
		}
	}
	if !r.ok {
		check(t, "region with false", show(r.read), show(region{}))
	}
}

// overwriteResults sets all memory of the results, list by list, and holds the others to stay as they are.
func (r arrangementResults) overwriteResults(t *testing.T) {
	t.Helper()
	lists := slices.Concat([][]pt{r.hot, r.way}, pointsOf(r.snap), pointsOf(r.joined), pointsOf(r.read))
	for i, list := range lists {
		before := show(lists[i+1:])
		overwrite(list, at(55, 55))
		check(t, "later results", show(lists[i+1:]), before)
	}
	for _, other := range []region{r.snap, r.joined, r.read} {
		overwrite(other.Rings, ringOf(at(55, 55)))
	}
}

// roomyRegion returns an equal region, behind whose rings and points there is room that is not empty.
func roomyRegion(r region) region {
	list := roomySlice(r.Rings, ringOf(at(77, 77)))
	for i, g := range list {
		list[i].Points = roomySlice(g.Points, at(77, 77))
	}
	return region{Rings: list}
}

// regionMemory shows all that a region has and may have.
func regionMemory(r region) string {
	var all []any
	for _, g := range r.Rings {
		all = append(all, g.Points[:cap(g.Points)])
	}
	return show(r.Rings[:cap(r.Rings)], all)
}

// randomArrangement returns arguments of any kind; about half of them are valid.
func randomArrangement(random *rand.Rand, regions []region, numbers []int64) arrangementArguments {
	a := arrangementArguments{r: roomyRegion(pick(random, regions)), other: roomyRegion(pick(random, regions)), a: placeIn(random, 9), b: placeIn(random, 9), p: placeIn(random, 9)}
	a.text = pick(random, append(oddTexts(), "0,0 1,1\n2,2\n", impl.RegionText(a.r), impl.RegionText(a.other)+"0,0 4,0\n", impl.RegionText(a.r)+"0"))
	hot, _ := impl.HotPoints(a.other)
	a.hot = roomySlice(hot, at(77, 77))
	odd := at(pick(random, numbers), pick(random, numbers))
	switch random.Intn(8) {
	case 0:
		a.a, a.b = odd, at(odd.Y, odd.X)
	case 1:
		a.p = odd
	case 2:
		if len(a.hot) > 0 {
			a.hot[random.Intn(len(a.hot))] = odd
		}
	case 3:
		if len(a.r.Rings) > 0 && len(a.r.Rings[0].Points) > 0 {
			a.r.Rings[0].Points[0] = odd
		}
	}
	return a
}

// TestArrangementsTotal is promise 1 for chapter 13: all functions return for all arguments, twice alike, in new memory, and keep their arguments.
func TestArrangementsTotal(t *testing.T) {
	t.Parallel()
	random, numbers := fixedRandom(), extremeNumbers()
	regions := append(badRegions(), manyRegions(150)...)
	for range 1500 {
		a := randomArrangement(random, regions, numbers)
		memory := func() string {
			return show(regionMemory(a.r), regionMemory(a.other), a.hot[:cap(a.hot)])
		}
		before := memory()
		first := arrangementResultsOf(a)
		first.checkZero(t)
		shown := show(first)
		check(t, "arguments after all calls", memory(), before)
		first.overwriteResults(t)
		check(t, "arguments after results are overwritten", memory(), before)
		if shown != show(arrangementResultsOf(a)) {
			t.Fatal("equal arguments have different results: ", a)
		}
	}
}
