package tests

import (
	"math/rand"
	"slices"
	"testing"

	"loop.example/g00883/impl"
)

// neighbours returns the points before and behind a point of a ring.
func neighbours(list []pt, i int) (pt, pt) {
	before, behind := list[len(list)-1], list[0]
	if i > 0 {
		before = list[i-1]
	}
	if i+1 < len(list) {
		behind = list[i+1]
	}
	return before, behind
}

// wantedSimple removes the first point at which a ring does not turn until there is none.
func wantedSimple(list []pt) []pt {
	for i, p := range list {
		if before, behind := neighbours(list, i); leftOf(before, p, behind) == 0 {
			return wantedSimple(slices.Concat(list[:i], list[i+1:]))
		}
	}
	return list
}

// isPartOf reports whether the points of one list are in another one in the same order.
func isPartOf(part, list []pt) bool {
	for _, p := range list {
		if len(part) > 0 && part[0] == p {
			part = part[1:]
		}
	}
	return len(part) == 0
}

// badRings returns rings that are not valid, for each reason.
func badRings() []ring {
	list := []ring{{}, ringOf([]pt{}...), ringOf(make([]pt, impl.MaxRing+1)...), ringOf(make([]pt, 100000)...)}
	for _, bad := range badPts() {
		list = append(list, ringOf(bad), ringOf(bad, at(0, 0), at(4, 4)), ringOf(at(0, 0), bad, at(4, 4)), ringOf(at(0, 0), at(4, 4), bad), ringOf(append(make([]pt, 399), bad)...))
	}
	return list
}

// randomRing returns a ring with many points at which it does not turn or turns back.
func randomRing(random *rand.Rand) ring {
	limit := int64(1) << random.Intn(19)
	if random.Intn(2) == 0 {
		limit = 1 + random.Int63n(4)
	}
	list := manyPts(random, 1+random.Intn(4), limit)
	for range random.Intn(8) {
		i := random.Intn(len(list))
		before, behind := neighbours(list, i)
		more := []pt{list[i], before, behind, middleOf(list[i], behind), middleOf(before, behind), placeIn(random, limit)}
		list = slices.Insert(list, i, pick(random, more))
	}
	return ringOf(list...)
}

// checkSimple holds SimplifyRing against the words of the document, and against promise 16: what remains turns at each point, is a part of the ring and has the same area.
func checkSimple(t *testing.T, g ring) int {
	t.Helper()
	want := wantedSimple(g.Points)
	got, code := impl.SimplifyRing(g)
	if len(want) == 0 {
		check(t, show("SimplifyRing", g), show(got, code), show(ring{}, impl.ErrState))
		check(t, show("area of a ring that does not turn", g), wantedArea(region{Rings: []ring{g}}), 0)
		return 0
	}
	check(t, show("SimplifyRing", g), show(got, code), show(ringOf(want...), impl.OK))
	for i, p := range got.Points {
		before, behind := neighbours(got.Points, i)
		check(t, show("turns", g, p), impl.Turn(before, p, behind) != 0, true)
	}
	check(t, show("part of the ring", g), isPartOf(got.Points, g.Points), true)
	check(t, show("same area", g), wantedArea(region{Rings: []ring{got}}), wantedArea(region{Rings: []ring{g}}))
	again, code := impl.SimplifyRing(got)
	check(t, show("SimplifyRing again", g), show(again, code), show(got, impl.OK))
	return len(got.Points)
}

func TestSimplifyRing(t *testing.T) {
	const m = impl.MaxCoord
	cases := map[string]string{
		"0,0 2,0 4,0 4,4 0,4": "0,0 4,0 4,4 0,4", "2,0 4,0 4,4 0,4 0,0": "4,0 4,4 0,4 0,0", "4,0 4,4 0,4 0,0 2,0": "4,0 4,4 0,4 0,0", "0,0 4,0 4,4 0,4": "0,0 4,0 4,4 0,4", "0,0 0,4 4,4 4,0": "0,0 0,4 4,4 4,0", "0,0 1,0 2,0 3,0 4,0 4,4": "0,0 4,0 4,4",
		"0,0": "", "0,0 0,0": "", "0,0 4,0": "", "0,0 4,0 9,0": "", "0,0 9,0 4,0 2,0": "", "3,3 3,3 3,3": "", "0,0 4,4 0,0 4,4 7,7": "", "0,0 4,0 4,4 4,0": "", "0,0 4,0 4,4 9,9 4,4 4,0": "",
		"0,0 4,0 9,0 4,0 4,4": "0,0 4,0 4,4", "0,0 4,0 4,0 4,4": "0,0 4,0 4,4", "0,0 0,0 4,0 4,4 4,4 0,4 0,0": "4,0 4,4 0,4 0,0", "0,0 9,0 4,0 4,4": "0,0 4,0 4,4", "9,0 4,0 4,4 0,0": "4,0 4,4 0,0", "0,0 9,9 0,0 4,0 4,4": "0,0 4,0 4,4", "0,0 4,0 4,4 0,4 0,9": "0,0 4,0 4,4 0,4", "0,0 4,0 4,4 2,4 2,9 2,4 0,4": "0,0 4,0 4,4 0,4",
		// A spike with spikes of its own, and one out of the first point into the last one.
		"0,0 4,0 4,4 8,8 8,12 8,8 4,4 0,4": "0,0 4,0 4,4 0,4", "0,0 4,0 4,4 8,8 8,12 12,12 8,12 8,8 4,4 0,4": "0,0 4,0 4,4 0,4", "5,5 0,0 4,0 4,4 0,4 0,0": "4,0 4,4 0,4 0,0", "0,0 4,0 4,4 0,4 0,0 -5,-7": "4,0 4,4 0,4 0,0", "-5,-7 0,0 4,0 4,4 0,4 0,0": "4,0 4,4 0,4 0,0",
		// A ring that goes on around twice turns at all of its points, one that goes back at none.
		"0,0 4,0 4,4 0,0 4,0 4,4": "0,0 4,0 4,4 0,0 4,0 4,4", "0,0 4,0 4,4 0,0 4,4 4,0": "", "0,0 4,4 0,4 4,0": "0,0 4,4 0,4 4,0",
		"-262144,-262144 262144,262144 262144,262143": "-262144,-262144 262144,262144 262144,262143", "-262144,-262144 0,0 262144,262144 0,1": "-262144,-262144 262144,262144 0,1",
	}
	for text, want := range cases {
		checkSimple(t, ringOf(points(text)...))
		got, code := impl.SimplifyRing(ringOf(points(text)...))
		due := int64(impl.OK)
		if want == "" {
			due = impl.ErrState
		}
		check(t, "SimplifyRing "+text, show(got, code), show(ringOf(points(want)...), due))
	}
	check(t, "all on a line", checkSimple(t, ringOf(inLine(400, at(-m, -m), at(3, 2))...)), 0)
	check(t, "many equal points", checkSimple(t, ringOf(slices.Repeat(points("0,0 0,0 9,0 9,0 9,9 9,9 0,9 0,9"), 1)...)), 4)
	check(t, "most points around", checkSimple(t, ringOf(ringPts()...)), 400)
	check(t, "a long side", checkSimple(t, ringOf(append(inLine(398, at(0, 0), at(5, -7)), at(5, 900), at(0, 900))...)), 4)
	check(t, "most points of a comb", checkSimple(t, comb(400, 0, 0)), 400)
	// All that is removed uncovers the next point to be removed.
	deep := inLine(200, at(0, 0), at(1, 3))
	back := slices.Clone(deep)
	slices.Reverse(back)
	check(t, "a long way there and back", checkSimple(t, ringOf(append(deep, back...)...)), 0)
	check(t, "a long spike", checkSimple(t, ringOf(slices.Concat(points("0,0 9,0 9,9"), deep[:190], back[10:], points("-4,7"))...)), 3)
	for _, bad := range badRings() {
		got, code := impl.SimplifyRing(bad)
		check(t, show("SimplifyRing", bad), show(got, code), show(ring{}, impl.ErrInvalid))
	}
}

// TestSimplifyRingsSmall checks all rings of up to five points of a small grid.
func TestSimplifyRingsSmall(t *testing.T) {
	grid, found := gridPts(0, 2), map[int]int{}
	for _, a := range grid {
		found[checkSimple(t, ringOf(a))]++
		for _, b := range grid {
			found[checkSimple(t, ringOf(a, b))]++
			for _, c := range grid {
				found[checkSimple(t, ringOf(a, b, c))]++
				for _, d := range grid {
					found[checkSimple(t, ringOf(a, b, c, d))]++
					if a.X+b.Y == 2 && c.X != d.Y {
						for _, e := range grid {
							found[checkSimple(t, ringOf(a, b, c, d, e))]++
						}
					}
				}
			}
		}
	}
	for _, n := range []int{0, 3, 4, 5} {
		if found[n] < 300 {
			t.Errorf("too few rings with a number of points: %v", found)
		}
	}
}

func TestSimplifyRingsRandom(t *testing.T) {
	random, found := fixedRandom(), map[int]int{}
	for range 5000 {
		g := randomRing(random)
		n := checkSimple(t, g)
		found[n]++
		// What is around does not change but on the edges.
		simple, _ := impl.SimplifyRing(g)
		p := nearPlace(random, region{Rings: []ring{g}})
		if winding, ok := wantedWinding(region{Rings: []ring{g}}, p, 1); ok {
			after, _ := wantedWinding(region{Rings: []ring{simple}}, p, 1)
			check(t, show("winding number", g, p), after, winding)
		}
	}
	for _, n := range []int{0, 3, 4, 5, 6} {
		if found[n] < 100 {
			t.Errorf("too few rings with a number of points: %v", found)
		}
	}
}

// wantedTidy returns a region of simple rings, turned and in order.
func wantedTidy(r region) region {
	var lists [][]pt
	for _, g := range r.Rings {
		list := wantedSimple(g.Points)
		var turns [][]pt
		for i := range list {
			turns = append(turns, slices.Concat(list[i:], list[:i]))
		}
		if len(turns) > 0 {
			lists = append(lists, slices.MinFunc(turns, comparedLists))
		}
	}
	slices.SortFunc(lists, comparedLists)
	var tidy region
	for _, list := range lists {
		tidy.Rings = append(tidy.Rings, ringOf(list...))
	}
	return tidy
}

// checkTidy holds TidyRegion against the words of the document.
func checkTidy(t *testing.T, random *rand.Rand, r region) region {
	t.Helper()
	want := wantedTidy(r)
	got, code := impl.TidyRegion(r)
	check(t, show("TidyRegion", r), show(got, code), show(want, impl.OK))
	again, code := impl.TidyRegion(got)
	check(t, show("TidyRegion again", r), show(again, code), show(got, impl.OK))
	check(t, show("same area", r), wantedArea(got), wantedArea(r))
	// Neither the order of the rings nor where they begin makes a difference, if no two points of a ring are equal and each one turns.
	other := copyOfRegion(got)
	random.Shuffle(len(other.Rings), func(i, k int) { other.Rings[i], other.Rings[k] = other.Rings[k], other.Rings[i] })
	for i, g := range other.Rings {
		n := random.Intn(len(g.Points))
		other.Rings[i].Points = slices.Concat(g.Points[n:], g.Points[:n])
	}
	shuffled, code := impl.TidyRegion(other)
	check(t, show("TidyRegion of the same rings", r), show(shuffled, code), show(got, impl.OK))
	return got
}

func TestTidyRegion(t *testing.T) {
	random := fixedRandom()
	cases := map[string]string{
		"": "", "5,5 5,5;4,4 0,4 0,0 2,0 4,0": "0,0 4,0 4,4 0,4", "5,5;0,0 4,0": "", "4,4 0,4 0,0 4,0": "0,0 4,0 4,4 0,4", "4,0 0,0 0,4 4,4": "0,0 0,4 4,4 4,0", "0,4 2,2 4,4 4,0;3,3": "4,0 2,2 4,4", "0,0 4,0 0,0 4,4;9,9 1,1 2,5": "1,1 2,5 9,9",
		"9,9 10,9 9,10;0,0 1,0 0,1": "0,0 1,0 0,1;9,9 10,9 9,10", "0,0 1,0 0,1;0,0 0,1 1,0": "0,0 1,0 0,1;0,0 0,1 1,0", "0,0 0,1 1,0;0,0 1,0 0,1": "0,0 1,0 0,1;0,0 0,1 1,0", "0,0 5,0 5,5;0,0 4,0 4,4;0,0 3,0 9,9": "0,0 3,0 9,9;0,0 4,0 4,4;0,0 5,0 5,5", "0,0 4,0 4,4;0,0 4,0 4,4": "0,0 4,0 4,4;0,0 4,0 4,4",
		// One list may be the beginning of another one, and a point may be twice in a list.
		"0,0 4,0 4,4 0,4;4,4 0,0 4,0": "0,0 4,0 4,4;0,0 4,0 4,4 0,4", "0,0 3,5 5,3 0,0 9,0 9,9 0,9": "0,0 9,0 9,9 0,9 0,0 3,5 5,3", "9,9 0,9 0,0 3,5 5,3 0,0 9,0": "0,0 9,0 9,9 0,9 0,0 3,5 5,3", "0,0 4,0 4,4 0,0 4,0 4,4": "0,0 4,0 4,4 0,0 4,0 4,4", "4,0 4,4 0,0 4,0 5,5 0,0": "0,0 4,0 4,4 0,0 4,0 5,5",
	}
	for lines, want := range cases {
		got := checkTidy(t, random, linesOf(lines))
		check(t, "TidyRegion "+lines, show(got), show(linesOf(want)))
	}
	for _, r := range goodRegions() {
		checkTidy(t, random, r)
	}
	sizes := map[int]int{}
	for range 2000 {
		var r region
		for range random.Intn(6) {
			r.Rings = append(r.Rings, randomRing(random))
		}
		if len(r.Rings) > 1 && random.Intn(3) == 0 {
			r.Rings[0] = r.Rings[1]
		}
		sizes[len(checkTidy(t, random, r).Rings)]++
	}
	for n := range 5 {
		if sizes[n] < 50 {
			t.Errorf("too few regions with a number of rings: %v", sizes)
		}
	}
	for _, bad := range badRegions() {
		got, code := impl.TidyRegion(bad)
		check(t, show("TidyRegion", bad), show(got, code), show(region{}, impl.ErrInvalid))
	}
}

// checkMeasures holds the measures of a ring against those of the region with this ring only.
func checkMeasures(t *testing.T, g ring, p pt) {
	t.Helper()
	alone := region{Rings: []ring{g}}
	twice, code := impl.RingTwice(g)
	check(t, show("RingTwice", g), show(twice, code), show(wantedArea(alone), impl.OK))
	wantedLow, wantedHigh := wantedBounds(g.Points)
	low, high, code := impl.RingBounds(g)
	check(t, show("RingBounds", g), show(low, high, code), show(wantedLow, wantedHigh, impl.OK))
	where := checkWinding(t, alone, p)
	got, code := impl.PointInRing(g, p)
	check(t, show("PointInRing", g, p), show(got, code), show(where, impl.OK))
}

func TestRingMeasures(t *testing.T) {
	const m = impl.MaxCoord
	square := ringOf(points("0,0 4,0 4,4 0,4")...)
	cases := []struct {
		text      string
		twice     int64
		low, high pt
		inside    int64
	}{
		{"0,0 2,0 4,0 4,4 0,4", 32, at(0, 0), at(4, 4), impl.InIn}, {"0,4 4,4 4,0 0,0", -32, at(0, 0), at(4, 4), impl.InIn}, {"1,1", 0, at(1, 1), at(1, 1), impl.InOut}, {"0,0 2,2", 0, at(0, 0), at(2, 2), impl.InEdge}, {"-5,7 3,-2 9,9", 142, at(-5, -2), at(9, 9), impl.InIn}, {"9,9 -1,1 4,1", 40, at(-1, 1), at(9, 9), impl.InEdge}, {"5,5 9,9 6,4", -8, at(5, 4), at(9, 9), impl.InOut},
	}
	for _, c := range cases {
		g := ringOf(points(c.text)...)
		twice, one := impl.RingTwice(g)
		low, high, two := impl.RingBounds(g)
		where, three := impl.PointInRing(g, at(1, 1))
		check(t, c.text, show(twice, low, high, where, one, two, three), show(c.twice, c.low, c.high, c.inside, 0, 0, 0))
		checkMeasures(t, g, at(1, 1))
	}
	random := fixedRandom()
	for range 2000 {
		g := randomRing(random)
		checkMeasures(t, g, nearPlace(random, region{Rings: []ring{g}}))
	}
	for _, g := range []ring{comb(400, 0, 0), ringOf(ringPts()...), ringOf(make([]pt, 400)...), ringOf(at(-m, -m), at(m, -m), at(m, m), at(-m, m)), star()} {
		checkMeasures(t, g, at(1, 1))
	}
	for _, bad := range badRings() {
		twice, one := impl.RingTwice(bad)
		low, high, two := impl.RingBounds(bad)
		where, three := impl.PointInRing(bad, at(1, 1))
		check(t, show("a ring that is not valid", bad), show(twice, low, high, where, one, two, three), show(0, pt{}, pt{}, 0, 1, 1, 1))
		where, three = impl.PointInRing(bad, at(m+1, 1))
		check(t, show("and no point", bad), show(where, three), show(0, impl.ErrInvalid))
	}
	for _, bad := range badPts() {
		where, code := impl.PointInRing(square, bad)
		check(t, show("PointInRing", bad), show(where, code), show(0, impl.ErrInvalid))
	}
}

func TestRegionBounds(t *testing.T) {
	cases := []struct {
		lines     string
		low, high pt
		code      int64
	}{
		{"", pt{}, pt{}, impl.ErrState}, {"5,7", at(5, 7), at(5, 7), impl.OK}, {"0,0 4,0 4,4;-3,2 1,9", at(-3, 0), at(4, 9), impl.OK}, {"9,9;8,10;7,7 3,8", at(3, 7), at(9, 10), impl.OK}, {"-5,-5 -4,-4", at(-5, -5), at(-4, -4), impl.OK}, {"5,5 4,4;6,6", at(4, 4), at(6, 6), impl.OK}, {"262144,-262144;-262144,262144", at(-262144, -262144), at(262144, 262144), impl.OK},
	}
	for _, c := range cases {
		low, high, code := impl.RegionBounds(linesOf(c.lines))
		check(t, "RegionBounds "+c.lines, show(low, high, code), show(c.low, c.high, c.code))
	}
	for _, r := range manyRegions(1000) {
		if len(r.Rings) == 0 {
			continue
		}
		low, high, code := impl.RegionBounds(r)
		wantedLow, wantedHigh := wantedBounds(slices.Concat(pointsOf(r)...))
		check(t, show("RegionBounds", r), show(low, high, code), show(wantedLow, wantedHigh, impl.OK))
	}
	for _, bad := range badRegions() {
		low, high, code := impl.RegionBounds(bad)
		check(t, show("RegionBounds", bad), show(low, high, code), show(pt{}, pt{}, impl.ErrInvalid))
	}
}

// isAround reports whether one ring is around another one, by the words of the document.
func isAround(one, other ring) bool {
	for _, e := range edgesOf(other) {
		middle := at(e[0].X+e[1].X, e[0].Y+e[1].Y)
		if winding, ok := wantedWinding(region{Rings: []ring{one}}, middle, 2); ok {
			return winding != 0
		}
	}
	return false
}

// wantedNesting returns the parents of all rings by the words of the document.
func wantedNesting(r region) []int64 {
	var parents []int64
	for i, g := range r.Rings {
		parent := -1
		for k, other := range r.Rings {
			if k != i && isAround(other, g) && (parent == -1 || isAround(r.Rings[parent], other)) {
				parent = k
			}
		}
		parents = append(parents, int64(parent))
	}
	return parents
}

// wantedParts returns the parts of a region with some parents.
func wantedParts(r region, parents []int64) []region {
	var parts []region
	for i, g := range r.Rings {
		if wantedArea(region{Rings: []ring{g}}) <= 0 {
			continue
		}
		part := region{Rings: []ring{g}}
		for k, hole := range r.Rings {
			if parents[k] == int64(i) && wantedArea(region{Rings: []ring{hole}}) < 0 {
				part.Rings = append(part.Rings, hole)
			}
		}
		parts = append(parts, part)
	}
	return parts
}

// wantedCleanCode returns what functions for clean regions return first.
func wantedCleanCode(r region) int64 {
	clean, code := wantedCombination(r, region{}, impl.BoUnion)
	switch {
	case code == impl.ErrInvalid:
		return code
	case code != impl.OK || show(clean) != show(r):
		return impl.ErrState
	default:
		return impl.OK
	}
}

// checkParts holds NestingOf and PartsOf against the words of the document, and against promise 16: the parts have all rings, each once, and together they are the region.
func checkParts(t *testing.T, r region) ([]int64, []region) {
	t.Helper()
	var wantParents []int64
	var wantParts []region
	due := wantedCleanCode(r)
	if due == impl.OK {
		wantParents = wantedNesting(r)
		wantParts = wantedParts(r, wantParents)
	}
	parents, code := impl.NestingOf(r)
	check(t, show("NestingOf", r), show(parents, code), show(wantParents, due))
	parts, code := impl.PartsOf(r)
	check(t, show("PartsOf", r), show(parts, code), show(wantParts, due))
	if code != impl.OK {
		return parents, parts
	}
	var together, all region
	for _, part := range parts {
		check(t, show("a part is clean", r, part), impl.IsClean(part), true)
		again, _ := impl.PartsOf(part)
		check(t, show("a part has one part", r, part), show(again), show([]region{part}))
		meet, code := impl.MeetOf(together, part)
		check(t, show("parts have nothing in common", r, part), show(meet, code), show(region{}, impl.OK))
		all.Rings = append(all.Rings, part.Rings...)
		together, code = impl.UnionOf(together, part)
		check(t, show("code of the union of parts", r), code, impl.OK)
	}
	check(t, show("the union of all parts", r), show(together), show(r))
	slices.SortFunc(all.Rings, func(g, h ring) int { return comparedLists(g.Points, h.Points) })
	check(t, show("the rings of all parts", r), show(all), show(r))
	for i, parent := range parents {
		if area := wantedArea(region{Rings: r.Rings[i : i+1]}); parent >= 0 {
			check(t, show("a ring and its parent lead in different directions", r, i), area > 0, wantedArea(region{Rings: r.Rings[parent : parent+1]}) < 0)
		} else {
			check(t, show("a ring without a parent", r, i), area > 0, true)
		}
	}
	return parents, parts
}

func TestNestingAndParts(t *testing.T) {
	cases := []struct {
		lines   string
		parents []int64
		parts   []string
	}{
		{"", nil, nil}, {"0,0 4,0 4,4 0,4", []int64{-1}, []string{"0,0 4,0 4,4 0,4"}}, {"0,0 9,0 9,9 0,9;3,3 3,6 6,6 6,3", []int64{-1, 0}, []string{"0,0 9,0 9,9 0,9;3,3 3,6 6,6 6,3"}}, {"0,0 4,0 4,4 0,4;5,5 9,5 9,9 5,9", []int64{-1, -1}, []string{"0,0 4,0 4,4 0,4", "5,5 9,5 9,9 5,9"}},
		// One in another one, and two beside each other in one.
		{"0,0 20,0 20,20 0,20;2,2 2,18 18,18 18,2;4,4 16,4 16,16 4,16;6,6 6,14 14,14 14,6;8,8 12,8 12,12 8,12", []int64{-1, 0, 1, 2, 3}, []string{"0,0 20,0 20,20 0,20;2,2 2,18 18,18 18,2", "4,4 16,4 16,16 4,16;6,6 6,14 14,14 14,6", "8,8 12,8 12,12 8,12"}}, {"0,0 20,0 20,20 0,20;2,2 2,5 5,5 5,2;12,2 12,5 15,5 15,2;13,3 14,3 14,4 13,4;3,9 3,12 6,12 6,9", []int64{-1, 0, 0, 2, 0}, []string{"0,0 20,0 20,20 0,20;2,2 2,5 5,5 5,2;12,2 12,5 15,5 15,2;3,9 3,12 6,12 6,9", "13,3 14,3 14,4 13,4"}},
		// What touches: two squares, a hole that is a part of the ring, with an island in it, two holes that are one ring, and holes around an island.
		{"0,0 4,0 4,4 0,4;4,4 8,4 8,8 4,8", []int64{-1, -1}, []string{"0,0 4,0 4,4 0,4", "4,4 8,4 8,8 4,8"}}, {"0,0 9,0 9,9 0,9 0,0 2,5 5,2;2,2 3,2 2,3", []int64{-1, -1}, []string{"0,0 9,0 9,9 0,9 0,0 2,5 5,2", "2,2 3,2 2,3"}}, {"0,0 9,0 9,9 0,9;2,2 2,4 4,4 4,6 6,6 6,4 4,4 4,2", []int64{-1, 0}, []string{"0,0 9,0 9,9 0,9;2,2 2,4 4,4 4,6 6,6 6,4 4,4 4,2"}}, {"0,0 10,0 10,10 0,10;4,2 4,4 2,4 2,6 4,6 4,8 6,8 6,6 8,6 8,4 6,4 6,2;4,4 6,4 6,6 4,6", []int64{-1, 0, 1}, []string{"0,0 10,0 10,10 0,10;4,2 4,4 2,4 2,6 4,6 4,8 6,8 6,6 8,6 8,4 6,4 6,2", "4,4 6,4 6,6 4,6"}},
		// An island that touches the border of its hole from within, and comes before it in the region.
		{"0,0 20,0 20,20 0,20;10,2 13,8 10,14 7,8;10,2 3,10 10,17 17,10;9,8 10,10 11,8", []int64{-1, 2, 0, 1}, []string{"0,0 20,0 20,20 0,20;10,2 3,10 10,17 17,10", "10,2 13,8 10,14 7,8;9,8 10,10 11,8"}},
		// The middles of the first edges are between integers, and close to other edges.
		{"0,0 3,0 3,3 0,3;1,1 1,2 2,2 2,1", []int64{-1, 0}, []string{"0,0 3,0 3,3 0,3;1,1 1,2 2,2 2,1"}}, {"0,0 9,8 0,9;1,2 1,4 2,3", []int64{-1, 0}, []string{"0,0 9,8 0,9;1,2 1,4 2,3"}}, {"0,0 4,1 5,5 1,5;2,2 2,3 3,3", []int64{-1, 0}, []string{"0,0 4,1 5,5 1,5;2,2 2,3 3,3"}}, {"0,0 1,0 1,1;1,0 2,0 2,1", []int64{-1, -1}, []string{"0,0 1,0 1,1", "1,0 2,0 2,1"}},
		{"-262144,-262144 262144,-262144 262144,262144 -262144,262144;-262143,-262143 -262143,262143 262143,262143 262143,-262143;-262142,-262142 262142,-262142 262142,262142", []int64{-1, 0, 1}, []string{"-262144,-262144 262144,-262144 262144,262144 -262144,262144;-262143,-262143 -262143,262143 262143,262143 262143,-262143", "-262142,-262142 262142,-262142 262142,262142"}},
	}
	for _, c := range cases {
		parents, parts := checkParts(t, linesOf(c.lines))
		var want []region
		for _, lines := range c.parts {
			want = append(want, linesOf(lines))
		}
		check(t, "parents and parts: "+c.lines, show(parents, parts), show(c.parents, want))
	}
	for _, lines := range []string{"3,3", "0,0 4,0", "0,4 4,4 4,0 0,0", "4,0 4,4 0,4 0,0", "4,4 8,4 8,8 4,8;0,0 4,0 4,4 0,4", "0,0 9,0 9,9 0,9;3,3 6,3 6,6 3,6", "0,0 4,4 0,4 4,0", "0,0 4,0 4,4 0,4;9,9", "0,0 0,0 4,0 4,4 0,4", "0,0 4,0 4,4 0,4;2,2 6,2 6,6 2,6"} {
		checkParts(t, linesOf(lines))
		_, one := impl.NestingOf(linesOf(lines))
		_, two := impl.PartsOf(linesOf(lines))
		check(t, "not clean: "+lines, show(one, two), show(impl.ErrState, impl.ErrState))
	}
	checkParts(t, region{Rings: []ring{star()}})
	for _, bad := range badRegions() {
		parents, one := impl.NestingOf(bad)
		parts, two := impl.PartsOf(bad)
		check(t, show("not valid", bad), show(parents, one, parts, two), show([]int64{}, impl.ErrInvalid, []region{}, impl.ErrInvalid))
	}
}

func TestPartsRandom(t *testing.T) {
	t.Parallel()
	random, sizes, depths := fixedRandom(), map[int]int{}, map[int]int{}
	for range 1500 {
		r, code := impl.CombineRegions(randomRegion(random), randomRegion(random), pick(random, someWays()))
		if code != impl.OK {
			continue
		}
		parents, parts := checkParts(t, r)
		sizes[min(len(parts), 6)]++
		for i := range parents {
			depth := 0
			for at := parents[i]; at >= 0; at = parents[at] {
				depth++
			}
			depths[depth]++
		}
		if random.Intn(4) == 0 {
			checkParts(t, randomRegion(random))
		}
	}
	if sizes[0] < 20 || sizes[1] < 100 || sizes[2] < 100 || sizes[6] < 20 || depths[0] < 1000 || depths[1] < 100 || depths[2] < 10 {
		t.Errorf("too few regions of a kind: %v %v", sizes, depths)
	}
}

// TestPartsOfCells holds the parts of a set of cells to be those sets of them that hang together by sides.
func TestPartsOfCells(t *testing.T) {
	t.Parallel()
	random := fixedRandom()
	grilles := []grille{{at(1, 0), at(0, 1)}, {at(0, 1), at(-1, 0)}, {at(7, 3), at(-2, 8)}, {at(-9, 0), at(5, -4)}, {at(1, 1), at(-1, 1)}, {at(900, 0), at(-1000, 800)}}
	holes, most, count := 0, 0, 0
	for i := range 240 {
		g, share := grilles[i%len(grilles)], 3+random.Intn(7)
		cells := map[cell]bool{}
		for x := range int64(7) {
			for y := range int64(7) {
				// Among the holes there are often some that hang together by corners around a cell.
				if random.Intn(10) < share && (x+y)%2 == 0 || (x+y)%2 == 1 && random.Intn(10) > share/3 {
					if len(cells) < impl.MaxRings {
						cells[cell{x, y}] = true
					}
				}
			}
		}
		r, code := impl.RemoveOverlap(g.regionOf(random, cells))
		check(t, show("code of RemoveOverlap", r), code, impl.OK)
		_, parts := checkParts(t, r)
		var want []string
		for len(cells) > 0 {
			for c := range cells {
				part := spread(cells, c, 4)
				if len(part) > 0 {
					alone, _ := impl.RemoveOverlap(g.regionOf(random, part))
					want = append(want, impl.RegionText(alone))
					holes += len(alone.Rings) - 1
				}
				delete(cells, c)
			}
		}
		var got []string
		for _, part := range parts {
			got = append(got, impl.RegionText(part))
		}
		slices.Sort(want)
		slices.Sort(got)
		check(t, show("parts of cells", r), show(got), show(want))
		most, count = max(most, len(parts)), count+len(parts)
	}
	if holes < 50 || most < 8 || count < 500 {
		t.Errorf("too few parts or holes: %d, at most %d at once, and %d", count, most, holes)
	}
}

// nest appends a square and squares within it, each with the index of the one around it.
func nest(random *rand.Rand, g grille, low pt, size int64, parent int, rings *[]ring, parents *[]int) {
	if size < 3 || len(*rings) == impl.MaxRings {
		return
	}
	x, y := low.X, low.Y
	list := []pt{g.at(x, y), g.at(x+size, y), g.at(x+size, y+size), g.at(x, y+size)}
	index, depth := len(*rings), 0
	for above := parent; above >= 0; above = (*parents)[above] {
		depth++
	}
	if depth%2 == 1 {
		slices.Reverse(list)
	}
	*rings, *parents = append(*rings, ringOf(list...)), append(*parents, parent)
	half := (size - 3) / 2
	switch random.Intn(3) {
	case 0:
		nest(random, g, at(x+1, y+1), size-2, index, rings, parents)
	case 1:
		for _, p := range []pt{at(x+1, y+1), at(x+2+half, y+1), at(x+1, y+2+half), at(x+2+half, y+2+half)} {
			nest(random, g, p, half, index, rings, parents)
		}
	}
}

// TestNestedSquares holds squares to have the parents within which they were placed.
func TestNestedSquares(t *testing.T) {
	t.Parallel()
	random, deepest, most := fixedRandom(), 0, 0
	grilles := []grille{{at(1, 0), at(0, 1)}, {at(0, 1), at(-1, 0)}, {at(7, 3), at(-2, 8)}, {at(-9, 0), at(5, -4)}, {at(-1, -1), at(1, -1)}}
	for i := range 300 {
		var rings []ring
		var parents []int
		nest(random, grilles[i%len(grilles)], at(0, 0), 8+random.Int63n(80), -1, &rings, &parents)
		nest(random, grilles[i%len(grilles)], at(200, 30), 8+random.Int63n(30), -1, &rings, &parents)
		r, code := impl.RemoveOverlap(region{Rings: rings})
		check(t, show("code of RemoveOverlap", rings), show(code, len(r.Rings)), show(impl.OK, len(rings)))
		indexOf := func(g ring) int {
			return slices.IndexFunc(rings, func(other ring) bool { return show(orderedPts(other.Points...)) == show(orderedPts(g.Points...)) })
		}
		nesting, _ := checkParts(t, r)
		for k, g := range r.Rings {
			want, got := parents[indexOf(g)], -1
			if nesting[k] >= 0 {
				got = indexOf(r.Rings[nesting[k]])
			}
			check(t, show("parent of a square", r, k), got, want)
			depth := 0
			for above := want; above >= 0; above = parents[above] {
				depth++
			}
			deepest = max(deepest, depth)
		}
		most = max(most, len(rings))
	}
	if deepest < 6 || most < impl.MaxRings {
		t.Errorf("at most %d rings are in each other, and %d in a region", deepest, most)
	}
}

// wantedKept returns what is kept between the ends of a path.
func wantedKept(path []pt, tolerance int64) []pt {
	a, b := path[0], path[len(path)-1]
	best, most := 0, int64(0)
	for i := 1; i < len(path)-1; i++ {
		out := max(leftOf(a, b, path[i]), -leftOf(a, b, path[i]))
		if way := apart(path[i], a); a == b {
			out = dotOf(way, way)
		}
		if !exactOf(path[i]).isWithin(tolerance, a, b) && (best == 0 || out > most) {
			best, most = i, out
		}
	}
	if best == 0 {
		return nil
	}
	return slices.Concat(wantedKept(path[:best+1], tolerance), path[best:best+1], wantedKept(path[best:], tolerance))
}

// checkThin holds ThinRing against the words of the document, and against promise 16: it keeps the first point and others, in order, and each point of the ring is within the tolerance of what remains.
func checkThin(t *testing.T, g ring, tolerance int64) int {
	t.Helper()
	want := ringOf(append([]pt{g.Points[0]}, wantedKept(append(slices.Clone(g.Points), g.Points[0]), tolerance)...)...)
	got, code := impl.ThinRing(g, tolerance)
	check(t, show("ThinRing", g, tolerance), show(got, code), show(want, impl.OK))
	if len(got.Points) == 0 || got.Points[0] != g.Points[0] || !isPartOf(got.Points, g.Points) {
		t.Errorf("ThinRing %v %d: %v does not begin with the first point, or is no part of the ring", g, tolerance, got)
		return 0
	}
	for _, p := range g.Points {
		isNear := slices.ContainsFunc(got.Points, func(q pt) bool { return p == q })
		for i := range got.Points {
			_, behind := neighbours(got.Points, i)
			isNear = isNear || exactOf(p).isWithin(tolerance, got.Points[i], behind)
		}
		check(t, show("near what remains", g, tolerance, p), isNear, true)
	}
	return len(got.Points)
}

func TestThinRing(t *testing.T) {
	t.Parallel()
	const m = impl.MaxCoord
	cases := []struct {
		text      string
		tolerance int64
		want      string
	}{
		{"0,0 5,1 10,0 10,10 0,10", 1, "0,0 10,0 10,10 0,10"}, {"0,0 5,2 10,0 10,10 0,10", 1, "0,0 5,2 10,0 10,10 0,10"}, {"0,0 2,0 4,0 4,4 0,4", 1, "0,0 4,0 4,4 0,4"}, {"0,0 2,0 4,0 4,4 0,4", 2, "0,0 4,0 4,4 0,4"}, {"0,0 2,0 4,0 4,4 0,4", 3, "0,0 4,4"}, {"0,0 2,0 4,0 4,4 0,4", 5, "0,0 4,4"}, {"0,0 2,0 4,0 4,4 0,4", 6, "0,0"}, {"0,0 2,0 4,0 4,4 0,4", m, "0,0"},
		{"7,7", 1, "7,7"}, {"7,7 7,7 7,7", 1, "7,7"}, {"7,7 8,7", 1, "7,7"}, {"7,7 9,7", 1, "7,7 9,7"}, {"0,0 1,1 2,2 9,9 4,4", 1, "0,0 9,9"}, {"4,4 0,0 0,8 8,8", 1, "4,4 0,0 0,8 8,8"}, {"0,5 5,0 10,5 5,10", 1, "0,5 5,0 10,5 5,10"}, {"1,0 0,0 10,0 10,10 0,10", 1, "1,0 10,0 10,10 0,10"}, {"0,0 0,0 9,0 9,0 9,9", 1, "0,0 9,0 9,9"},
		// The first one of several is kept: of those that are as far from equal ends, and of those that are as far from the way.
		{"0,0 3,0 0,3", 4, "0,0"}, {"0,0 8,0 0,8", 6, "0,0 8,0 0,8"}, {"0,0 6,0 6,1 0,6", 5, "0,0 6,1 0,6"}, {"0,0 5,5 5,-5 0,1", 9, "0,0"}, {"0,0 10,0 9,4 3,4", 2, "0,0 10,0 9,4 3,4"}, {"0,0 3,4 7,4 10,0", 2, "0,0 3,4 10,0"}, {"0,0 7,4 3,4 10,0", 2, "0,0 7,4 3,4 10,0"}, {"0,0 3,-4 7,4 10,0", 2, "0,0 3,-4 7,4 10,0"}, {"0,0 3,3 3,-3", 5, "0,0"}, {"0,0 5,0 4,3 3,4", 3, "0,0 5,0 3,4"}, {"0,0 5,0 3,4", 4, "0,0 5,0"}, {"0,0 3,4 5,0", 4, "0,0 3,4"},
		// Points beyond the ends of a way are examined, also those on its line.
		{"0,0 14,0 10,0 10,10", 3, "0,0 14,0 10,0 10,10"}, {"0,0 14,0 10,0 10,10", 4, "0,0 14,0 10,10"}, {"0,0 -9,0 20,0 1,9", 2, "0,0 -9,0 20,0 1,9"}, {"0,0 -9,0 20,0 1,9", 9, "0,0 20,0"}, {"0,0 -9,0 20,0 1,9", 8, "0,0 -9,0 20,0 1,9"}, {"0,0 30,0 33,0 60,0 31,7", 1, "0,0 60,0 31,7"},
		{"-262144,-262144 262144,262144 262143,262144", 1, "-262144,-262144 262144,262144"}, {"-262144,-262144 262144,262144 -262144,262144", m, "-262144,-262144 262144,262144 -262144,262144"}, {"-262144,-262144 262144,262144 0,1", 1, "-262144,-262144 262144,262144"}, {"-262144,-262144 262144,262144 0,2", 1, "-262144,-262144 262144,262144 0,2"},
	}
	for _, c := range cases {
		got, code := impl.ThinRing(ringOf(points(c.text)...), c.tolerance)
		check(t, show("ThinRing", c.text, c.tolerance), show(got, code), show(ringOf(points(c.want)...), impl.OK))
		checkThin(t, ringOf(points(c.text)...), c.tolerance)
	}
	for _, g := range []ring{comb(400, 0, 0), ringOf(ringPts()...), ringOf(inLine(400, at(0, 0), at(3, -2))...), ringOf(make([]pt, 400)...), star()} {
		for _, tolerance := range []int64{1, 2, 3, 9, 50, 1000, m} {
			checkThin(t, g, tolerance)
		}
	}
	for _, tolerance := range badTolerances() {
		got, code := impl.ThinRing(ringOf(points("0,0 9,0 9,9")...), tolerance)
		check(t, show("ThinRing", tolerance), show(got, code), show(ring{}, impl.ErrRange))
		got, code = impl.ThinRing(ring{}, tolerance)
		check(t, show("ThinRing without points", tolerance), show(got, code), show(ring{}, impl.ErrInvalid))
	}
	for _, bad := range badRings() {
		got, code := impl.ThinRing(bad, 1)
		check(t, show("ThinRing", bad), show(got, code), show(ring{}, impl.ErrInvalid))
	}
}

func TestThinRingsRandom(t *testing.T) {
	random, kept, lost := fixedRandom(), map[int]int{}, 0
	for range 3000 {
		g := randomRing(random)
		low, high := wantedBounds(g.Points)
		for range 3 {
			tolerance := 1 + random.Int63n(1+(high.X-low.X+high.Y-low.Y)/3)
			n := checkThin(t, g, min(tolerance, impl.MaxCoord))
			kept[min(n, 6)]++
			lost += len(g.Points) - n
		}
	}
	for n := 1; n <= 6; n++ {
		if kept[n] < 100 || lost < 1000 {
			t.Errorf("too few rings with a number of points: %v, %d are lost", kept, lost)
		}
	}
}

// wantedSame compares regions by the words of the document.
func wantedSame(a, b region) (bool, int64) {
	if !regionIsValid(a) || !regionIsValid(b) {
		return false, impl.ErrInvalid
	}
	one, codeOne := wantedCombination(a, region{}, impl.BoUnion)
	other, codeOther := wantedCombination(b, region{}, impl.BoUnion)
	if codeOne != impl.OK || codeOther != impl.OK {
		return false, impl.ErrFull
	}
	return show(wantedTidy(one)) == show(wantedTidy(other)), impl.OK
}

func checkSame(t *testing.T, a, b region) bool {
	t.Helper()
	want, due := wantedSame(a, b)
	same, code := impl.SameShape(a, b)
	back, backCode := impl.SameShape(b, a)
	check(t, show("SameShape", a, b), show(same, code, back, backCode), show(want, due, want, due))
	return same
}

func TestSameShape(t *testing.T) {
	const square = "0,0 4,0 4,4 0,4"
	cases := []struct {
		a, b string
		want bool
	}{
		{square, square, true}, {square, "4,4 4,2 4,0 0,0 0,4", true}, {square, "4,4 0,4 0,0 4,0;1,1 3,1 3,3", true}, {square, "4,4 0,4 0,0 4,0;1,1 1,3 3,3", false}, {square, "0,0 2,0 2,4 0,4;2,0 4,0 4,4 2,4", true}, {square, "0,0 4,0 4,4;0,0 4,4 0,4", true}, {square, "0,0 4,0 9,0 4,0 4,4 0,4;7,7", true}, {square, square + ";" + square, true}, {square, "0,0 4,0 4,4 0,4 0,0 4,0 4,4 0,4", true},
		{square, "", false}, {square, "0,0 4,0 4,4", false}, {square, "0,0 4,0 4,5 0,5", false}, {square, "0,0 4,0 4,4 0,4;4,4 5,4 5,5 4,5", false}, {square, "0,0 4,0 4,4 0,4;1,1 1,3 3,3 3,1", false}, {"0,0 4,0 4,4 0,4;0,0 0,4 4,4 4,0", "", true}, {"", "", true}, {"3,3;0,0 4,0", "", true}, {"0,0 9,0 9,9 0,9;3,3 6,3 6,6 3,6", "0,0 9,0 9,9 0,9", true}, {"0,0 9,0 9,9 0,9;3,3 3,6 6,6 6,3", "0,0 9,0 9,9 0,9", false}, {"0,0 9,0 9,9 0,9;3,3 3,6 6,6 6,3", "0,0 9,0 9,3 0,3;0,3 3,3 3,6 0,6;6,3 9,3 9,6 6,6;0,6 9,6 9,9 0,9", true},
		{"0,0 4,3 0,3 4,0", "0,0 4,0 2,2;2,2 4,3 0,3", true}, {"0,0 4,4 4,0", "4,0 4,4 2,2 0,0", true}, {"0,0 4,0 2,3", "0,0 4,0 3,3", false},
	}
	for _, c := range cases {
		same, code := impl.SameShape(linesOf(c.a), linesOf(c.b))
		check(t, show("SameShape", c.a, "and", c.b), show(same, code), show(c.want, impl.OK))
		checkSame(t, linesOf(c.a), linesOf(c.b))
	}
	wild, good := region{Rings: []ring{star()}}, linesOf(square)
	checkSame(t, wild, good)
	same, code := impl.SameShape(wild, wild)
	check(t, "too many edges", show(same, code), show(false, impl.ErrFull))
	for _, bad := range badRegions() {
		for _, other := range []region{good, wild, bad, {}} {
			one, codeOne := impl.SameShape(bad, other)
			two, codeTwo := impl.SameShape(other, bad)
			check(t, show("SameShape", bad), show(one, codeOne, two, codeTwo), show(false, impl.ErrInvalid, false, impl.ErrInvalid))
		}
	}
}

// runsOf returns a region with a rectangle for each run of cells in a row, some of which are in two pieces that overlap.
func (g grille) runsOf(random *rand.Rand, cells map[cell]bool) region {
	var r region
	box := func(x, to, y int64) {
		r.Rings = append(r.Rings, ringOf(g.at(2*x, 2*y), g.at(2*to, 2*y), g.at(2*to, 2*y+2), g.at(2*x, 2*y+2)))
	}
	for y := range int64(7) {
		for x := int64(0); x < 7; x++ {
			from := x
			for cells[cell{x, y}] {
				x++
			}
			if x-from > 2 && random.Intn(2) == 0 {
				box(from, x-1, y)
				box(from+1, x, y)
			} else if x > from {
				box(from, x, y)
			}
		}
	}
	return r
}

// TestSameShapes compares regions of the same cells, and of other ones.
func TestSameShapes(t *testing.T) {
	random := fixedRandom()
	grilles := []grille{{at(1, 0), at(0, 1)}, {at(7, 3), at(-2, 8)}, {at(-9, 0), at(5, -4)}, {at(1, 1), at(-1, 1)}}
	for i := range 60 {
		g, cells := grilles[i%len(grilles)], map[cell]bool{}
		for range 4 + random.Intn(28) {
			cells[cell{random.Int63n(7), random.Int63n(7)}] = true
		}
		a, b := g.regionOf(random, cells), g.runsOf(random, cells)
		check(t, show("the same cells", a, b), checkSame(t, a, b), true)
		c := cell{random.Int63n(7), random.Int63n(7)}
		if cells[c] {
			delete(cells, c)
		} else {
			cells[c] = true
		}
		other := g.runsOf(random, cells)
		check(t, show("other cells", a, other), checkSame(t, a, other), false)
	}
	found, grid := map[bool]int{}, gridPts(0, 2)
	for range 1500 {
		a, b := linesOf("0,0"), linesOf("0,0")
		for range 3 {
			a.Rings[0].Points = append(a.Rings[0].Points, pick(random, grid))
			b.Rings[0].Points = append(b.Rings[0].Points, pick(random, grid))
		}
		found[checkSame(t, a, b)]++
		if clean, code := impl.RemoveOverlap(a); code == impl.OK {
			check(t, show("without overlaps", a), checkSame(t, clean, a), true)
		}
		back, _ := impl.ReverseRegion(a)
		check(t, show("in the other direction", a), checkSame(t, a, back), true)
	}
	if found[true] < 30 || found[false] < 300 {
		t.Errorf("too few regions of a kind: %v", found)
	}
}

// ringResults are what the functions of chapter 15 return.
type ringResults struct {
	simple, thin          ring
	tidy                  region
	parts                 []region
	parents               []int64
	low, high, least, top pt
	twice, where          int64
	same                  bool
	codes                 []int64
}

func ringResultsOf(r, other region, g ring, p pt, tolerance int64) ringResults {
	s := ringResults{codes: make([]int64, 10)}
	s.simple, s.codes[0] = impl.SimplifyRing(g)
	s.thin, s.codes[1] = impl.ThinRing(g, tolerance)
	s.tidy, s.codes[2] = impl.TidyRegion(r)
	s.parts, s.codes[3] = impl.PartsOf(r)
	s.parents, s.codes[4] = impl.NestingOf(r)
	s.low, s.high, s.codes[5] = impl.RingBounds(g)
	s.least, s.top, s.codes[6] = impl.RegionBounds(r)
	s.twice, s.codes[7] = impl.RingTwice(g)
	s.where, s.codes[8] = impl.PointInRing(g, p)
	s.same, s.codes[9] = impl.SameShape(r, other)
	return s
}

// checkZero holds everything that comes with an error to be 0.
func (s ringResults) checkZero(t *testing.T) {
	t.Helper()
	zero := []bool{len(s.simple.Points) == 0, len(s.thin.Points) == 0, len(s.tidy.Rings) == 0, len(s.parts) == 0, len(s.parents) == 0, s.low == pt{} && s.high == pt{}, s.least == pt{} && s.top == pt{}, s.twice == 0, s.where == 0, !s.same}
	for i, code := range s.codes {
		if code != impl.OK && !zero[i] {
			t.Errorf("result %d is not 0 though the code is %d: %+v", i, code, s)
		}
	}
}

// overwriteResults sets all memory of the results, list by list, and holds the others to stay as they are.
func (s ringResults) overwriteResults(t *testing.T) {
	t.Helper()
	lists := [][]pt{s.simple.Points, s.thin.Points}
	for _, r := range append([]region{s.tidy}, s.parts...) {
		lists = append(lists, pointsOf(r)...)
	}
	for i, list := range lists {
		before := show(lists[i+1:])
		overwrite(list, at(55, 55))
		check(t, "later results", show(lists[i+1:]), before)
	}
	for i, r := range append([]region{s.tidy}, s.parts...) {
		before := show(s.parts[i:])
		overwrite(r.Rings, ringOf(at(55, 55)))
		check(t, "later parts", show(s.parts[i:]), before)
	}
	overwrite(s.parts, region{})
	overwrite(s.parents, 55)
}

// TestRingsTotal is promise 1 for chapter 15: all functions return for all arguments, twice alike, in new memory, and keep their arguments.
func TestRingsTotal(t *testing.T) {
	t.Parallel()
	random, numbers := fixedRandom(), extremeNumbers()
	bads, wrong := append(badRegions(), goodRegions()...), badRings()
	goods := map[int64]int{}
	for range 2500 {
		r, other, g := randomRegion(random), randomRegion(random), randomRing(random)
		if clean, code := impl.RemoveOverlap(r); code == impl.OK && random.Intn(2) == 0 {
			r = clean
		}
		p, tolerance := placeIn(random, 9), 1+random.Int63n(100)
		odd := at(pick(random, numbers), pick(random, numbers))
		switch random.Intn(9) {
		case 0:
			p, tolerance = odd, odd.X
		case 1:
			r = pick(random, bads)
		case 2:
			other = pick(random, bads)
		case 3:
			g = pick(random, wrong)
		case 4:
			g.Points[random.Intn(len(g.Points))] = odd
		}
		r, other, g = roomyRegion(r), roomyRegion(other), ringOf(roomySlice(g.Points, at(77, 77))...)
		memory := func() string { return show(regionMemory(r), regionMemory(other), g.Points[:cap(g.Points)]) }
		before := memory()
		first := ringResultsOf(r, other, g, p, tolerance)
		first.checkZero(t)
		for i, code := range first.codes {
			if code == impl.OK {
				goods[int64(i)]++
			}
		}
		shown := show(first)
		check(t, "arguments after all calls", memory(), before)
		first.overwriteResults(t)
		check(t, "arguments after results are overwritten", memory(), before)
		if shown != show(ringResultsOf(r, other, g, p, tolerance)) {
			t.Fatal("equal arguments have different results: ", r, other, g, p, tolerance)
		}
	}
	for i := range int64(10) {
		if goods[i] < 300 {
			t.Errorf("too few results without an error: %v", goods)
		}
	}
}
