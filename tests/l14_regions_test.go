package tests

import (
	"math"
	"math/rand"
	"slices"
	"strings"
	"testing"

	"loop.example/g00883/impl"
)

// linesOf returns the region with lines that are separated by semicolons; no lines if there is no text.
func linesOf(lines string) region {
	if lines == "" {
		return region{}
	}
	return regionOf(strings.Split(lines, ";")...)
}

// someWays are the ways to combine regions.
func someWays() []int64 { return []int64{impl.BoUnion, impl.BoMeet, impl.BoMinus, impl.BoOdd} }

func crossOf(u, v pt) int64 { return u.X*v.Y - u.Y*v.X }

func dotOf(u, v pt) int64 { return u.X*v.X + u.Y*v.Y }

func apart(p, q pt) pt { return at(p.X-q.X, p.Y-q.Y) }

// isOnEdge reports whether q / k is on an edge.
func isOnEdge(edges [][2]pt, q pt, k int64) bool {
	return slices.ContainsFunc(edges, func(e [2]pt) bool {
		u, v := apart(at(k*e[0].X, k*e[0].Y), q), apart(at(k*e[1].X, k*e[1].Y), q)
		return crossOf(u, v) == 0 && dotOf(u, v) <= 0
	})
}

// windingsBeside returns the winding numbers directly on the left and on the right of q / k on a way, from the angles under which the edges are seen from there.
// An edge through this place is half a turn, to one side or to the other.
func windingsBeside(edges [][2]pt, q pt, k int64, way pt) (int64, int64) {
	left, right := 0.0, 0.0
	for _, e := range edges {
		u, v := apart(at(k*e[0].X, k*e[0].Y), q), apart(at(k*e[1].X, k*e[1].Y), q)
		cross, dot := crossOf(u, v), dotOf(u, v)
		switch angle := math.Atan2(float64(cross), float64(dot)); {
		case cross != 0 || dot > 0:
			left, right = left+angle, right+angle
		case dotOf(way, apart(e[1], e[0])) > 0:
			left, right = left+math.Pi, right-math.Pi
		default:
			left, right = left-math.Pi, right+math.Pi
		}
	}
	return int64(math.Round(left / (2 * math.Pi))), int64(math.Round(right / (2 * math.Pi)))
}

// wantedWinding returns the winding number at q / k, and whether this is on no edge.
func wantedWinding(r region, q pt, k int64) (int64, bool) {
	edges := edgesOf(r.Rings...)
	if isOnEdge(edges, q, k) {
		return 0, false
	}
	winding, _ := windingsBeside(edges, q, k, pt{})
	return winding, true
}

// checkWinding holds WindingOf and PointIn against the angles of all edges, and returns what PointIn should.
func checkWinding(t *testing.T, r region, p pt) int64 {
	t.Helper()
	winding, ok := wantedWinding(r, p, 1)
	where := int64(impl.InOut)
	switch {
	case !ok:
		where = impl.InEdge
	case winding != 0:
		where = impl.InIn
	}
	got, gotOk := impl.WindingOf(r, p)
	in, code := impl.PointIn(r, p)
	if got != winding || gotOk != ok || in != where || code != impl.OK {
		t.Errorf("at %v in %v: got %d, %t and %d, %d, want %d, %t and %d", p, r, got, gotOk, in, code, winding, ok, where)
	}
	return where
}

func TestWindingOf(t *testing.T) {
	const m = impl.MaxCoord
	check(t, "answers", [3]int64{impl.InOut, impl.InIn, impl.InEdge}, [3]int64{0, 1, 2})
	cases := []struct {
		what, lines string
		p           pt
		want        int64
		ok          bool
	}{
		{"in a square", "0,0 4,0 4,4 0,4", at(1, 1), 1, true}, {"in a square that is clockwise", "0,0 0,4 4,4 4,0", at(1, 1), -1, true}, {"beside a square", "0,0 4,0 4,4 0,4", at(5, 1), 0, true}, {"on the other side", "0,0 4,0 4,4 0,4", at(-1, 1), 0, true},
		{"in the height of the upper side", "0,0 4,0 4,4 0,4", at(-1, 4), 0, true}, {"in the height of the lower side", "0,0 4,0 4,4 0,4", at(-1, 0), 0, true}, {"behind the lower side", "0,0 4,0 4,4 0,4", at(5, 0), 0, true}, {"behind the upper side", "0,0 4,0 4,4 0,4", at(5, 4), 0, true},
		{"on the lower side", "0,0 4,0 4,4 0,4", at(1, 0), 0, false}, {"on the upper side", "0,0 4,0 4,4 0,4", at(1, 4), 0, false}, {"on the right side", "0,0 4,0 4,4 0,4", at(4, 1), 0, false}, {"on the last edge", "0,0 4,0 4,4 0,4", at(0, 1), 0, false}, {"at a corner", "0,0 4,0 4,4 0,4", at(4, 4), 0, false}, {"on a slant edge", "0,0 4,0 4,4", at(2, 2), 0, false},
		{"twice around", "0,0 4,0 4,4 0,4 0,0 4,0 4,4 0,4", at(1, 1), 2, true}, {"around and back", "0,0 4,0 4,4 0,4 0,0 0,4 4,4 4,0", at(1, 1), 0, true}, {"on edges that cancel out", "0,0 4,0", at(2, 0), 0, false}, {"around both", "0,0 4,0 4,4 0,4;2,2 6,2 6,6 2,6", at(3, 3), 2, true}, {"around both ways", "0,0 4,0 4,4 0,4;2,2 2,6 6,6 6,2", at(3, 3), 0, true},
		{"one half of an eight", "0,0 8,8 0,8 8,0", at(4, 1), -1, true}, {"the other half of an eight", "0,0 8,8 0,8 8,0", at(4, 7), 1, true}, {"where an eight crosses itself", "0,0 8,8 0,8 8,0", at(4, 4), 0, false}, {"beside an eight, in the height of its middle", "0,0 8,8 0,8 8,0", at(3, 4), 0, true},
		{"in the height of a corner on the right", "0,0 4,4 0,8", at(1, 4), 1, true}, {"left of a corner on the left", "0,4 4,0 4,8", at(-1, 4), 0, true}, {"in a notch", "0,0 8,0 4,4 8,8 0,8", at(5, 4), 0, true}, {"before a notch", "0,0 8,0 4,4 8,8 0,8", at(3, 4), 1, true}, {"below a corner that points down", "0,0 8,0 8,8 4,2 0,8", at(2, 2), 1, true}, {"left of a corner that points up", "0,0 4,4 8,0", at(1, 4), 0, true},
		{"before level edges upwards", "0,0 4,0 4,2 6,2 6,4 0,4", at(1, 2), 1, true}, {"before level edges back", "0,0 6,0 6,2 4,2 4,4 0,4", at(1, 2), 1, true}, {"between two level edges", "0,0 9,0 9,4 7,4 7,2 5,2 5,4 4,4 4,2 2,2 2,4 0,4", at(1, 2), 1, true}, {"outside, between two level edges", "0,0 9,0 9,4 7,4 7,2 5,2 5,4 3,4 3,2 2,2 2,4 0,4", at(6, 3), 0, true},
		{"a spike in this height", "0,0 4,0 4,2 8,2 4,2 4,4 0,4", at(1, 2), 1, true}, {"on a spike", "0,0 4,0 4,2 8,2 4,2 4,4 0,4", at(6, 2), 0, false}, {"behind a spike", "0,0 4,0 4,2 8,2 4,2 4,4 0,4", at(9, 2), 0, true}, {"a spike inside", "0,0 8,0 8,8 0,8 0,4 4,4 0,4", at(5, 4), 1, true}, {"on a spike inside", "0,0 8,0 8,8 0,8 0,4 4,4 0,4", at(3, 4), 0, false},
		{"at a ring of one point", "3,3", at(3, 3), 0, true}, {"at a ring of equal points", "3,3 3,3", at(3, 3), 0, true}, {"at a point in a square", "0,0 4,0 4,4 0,4;3,3", at(3, 3), 1, true}, {"no rings", "", at(3, 3), 0, true}, {"repeated points", "0,0 0,0 4,0 4,4 4,4 0,4 0,0", at(1, 1), 1, true},
		{"the greatest square", "-262144,-262144 262144,-262144 262144,262144 -262144,262144", at(m-1, 1-m), 1, true}, {"at its corner", "-262144,-262144 262144,-262144 262144,262144 -262144,262144", at(m, m), 0, false}, {"above almost a diagonal", "-262144,-262144 262144,262143 -262144,262144", at(0, 0), 1, true}, {"below almost a diagonal", "-262144,-262144 262144,262143 -262144,262144", at(0, -1), 0, true},
	}
	for _, c := range cases {
		r := linesOf(c.lines)
		got, ok := impl.WindingOf(r, c.p)
		check(t, c.what, show(got, ok), show(c.want, c.ok))
		checkWinding(t, r, c.p)
	}
	for _, bad := range badPts() {
		checkNoWinding(t, linesOf("0,0 4,0 4,4 0,4"), bad)
		checkNoWinding(t, region{}, bad)
	}
	for _, bad := range badRegions() {
		checkNoWinding(t, bad, at(1, 1))
		checkNoWinding(t, bad, badPts()[0])
	}
}

func checkNoWinding(t *testing.T, r region, p pt) {
	t.Helper()
	got, ok := impl.WindingOf(r, p)
	in, code := impl.PointIn(r, p)
	check(t, show("no winding number", r, p), show(got, ok, in, code), show(0, false, 0, impl.ErrInvalid))
}

// TestWindingsSmall checks, for all rings of four points of a small grid, the points of the grid, those between them and some outside.
func TestWindingsSmall(t *testing.T) {
	found := map[int64]int{}
	grid, places := gridPts(0, 2), gridPts(-1, 5)
	for i, a := range grid {
		for k, b := range grid {
			for l, c := range grid {
				for n, d := range grid {
					if i > min(k, l, n) {
						continue
					}
					double := func(p pt) pt { return at(2*p.X, 2*p.Y) }
					r := region{Rings: []ring{ringOf(double(a), double(b), double(c), double(d))}}
					for _, p := range places {
						found[checkWinding(t, r, p)]++
					}
				}
			}
		}
	}
	for _, where := range []int64{impl.InOut, impl.InIn, impl.InEdge} {
		if found[where] < 1500 {
			t.Errorf("too few points of a kind: %v", found)
		}
	}
}

// nearPlace returns a point near a region, often in the height of one of its points.
func nearPlace(random *rand.Rand, r region) pt {
	all := slices.Concat(pointsOf(r)...)
	if len(all) == 0 {
		return placeIn(random, 9)
	}
	a, b, c := pick(random, all), pick(random, all), pick(random, all)
	p := partWay(middleOf(a, b), c, ratio(random.Int63n(101), 100)).rounded()
	switch random.Intn(4) {
	case 0:
		p.Y = a.Y
	case 1:
		p = at(p.X+random.Int63n(21)-10, a.Y)
	}
	return at(max(-impl.MaxCoord, min(impl.MaxCoord, p.X)), p.Y)
}

func TestWindingsRandom(t *testing.T) {
	random, found := fixedRandom(), map[int64]int{}
	for _, r := range manyRegions(1500) {
		for range 20 {
			found[checkWinding(t, r, nearPlace(random, r))]++
		}
	}
	for _, where := range []int64{impl.InOut, impl.InIn, impl.InEdge} {
		if found[where] < 2000 {
			t.Errorf("too few points of a kind: %v", found)
		}
	}
}

// TestWindingsAddUp is the first part of promise 15.
func TestWindingsAddUp(t *testing.T) {
	random, list := fixedRandom(), manyRegions(400)
	sums := map[int64]int{}
	for range 3000 {
		a, b := pick(random, list), pick(random, list)
		joined, code := impl.JoinRegions(a, b)
		if code != impl.OK {
			continue
		}
		p := nearPlace(random, joined)
		one, inOne := impl.WindingOf(a, p)
		other, inOther := impl.WindingOf(b, p)
		both, ok := impl.WindingOf(joined, p)
		check(t, show("no edge", a, b, p), ok, inOne && inOther)
		if ok {
			check(t, show("sum of winding numbers", a, b, p), both, one+other)
			sums[both]++
		}
		back, _ := impl.ReverseRegion(joined)
		opposite, same := impl.WindingOf(back, p)
		check(t, show("winding number of the reverse", a, b, p), show(opposite, same), show(-both, ok))
		total, apart := int64(0), true
		for _, g := range joined.Rings {
			winding, ok := impl.WindingOf(region{Rings: []ring{g}}, p)
			total, apart = total+winding, apart && ok
		}
		if apart {
			check(t, show("sum over the rings", a, b, p), total, both)
		}
		check(t, show("no edge of a ring", a, b, p), apart, ok)
	}
	if sums[0] < 300 || sums[1] < 50 || sums[-1] < 50 || sums[2]+sums[-2] < 20 {
		t.Errorf("too few sums: %v", sums)
	}
}

// wantedNetEdges returns the net edges of a snapped region by the words of the document.
func wantedNetEdges(r region) []impl.NetEdge {
	var list []impl.NetEdge
	edges := edgesOf(r.Rings...)
	for _, e := range edges {
		a, b := e[0], e[1]
		if isLower(b, a) {
			a, b = b, a
		}
		net := impl.NetEdge{A: a, B: b}
		for _, f := range edges {
			if f == [2]pt{a, b} {
				net.Net++
			}
			if f == [2]pt{b, a} {
				net.Net--
			}
		}
		net.Left, net.Right = windingsBeside(edges, at(a.X+b.X, a.Y+b.Y), 2, apart(b, a))
		if !slices.Contains(list, net) {
			list = append(list, net)
		}
	}
	slices.SortFunc(list, func(e, f impl.NetEdge) int { return comparedLists([]pt{e.A, e.B}, []pt{f.A, f.B}) })
	return list
}

// comparedLists compares lists of points, point by point.
func comparedLists(a, b []pt) int {
	for i := range min(len(a), len(b)) {
		switch {
		case isLower(a[i], b[i]):
			return -1
		case isLower(b[i], a[i]):
			return 1
		}
	}
	return len(a) - len(b)
}

func checkNetEdges(t *testing.T, r region) []impl.NetEdge {
	t.Helper()
	var want []impl.NetEdge
	due := int64(impl.ErrState)
	if isSnapped(r) {
		want, due = wantedNetEdges(r), impl.OK
	}
	got, code := impl.NetEdges(r)
	check(t, show("NetEdges", r), show(got, code), show(want, due))
	for _, e := range got {
		check(t, show("step over an edge", r, e), e.Left-e.Right, e.Net)
	}
	return got
}

func TestNetEdges(t *testing.T) {
	edge := func(a, b pt, numbers ...int64) impl.NetEdge {
		return impl.NetEdge{A: a, B: b, Net: numbers[0], Left: numbers[1], Right: numbers[2]}
	}
	cases := []struct {
		lines string
		want  []impl.NetEdge
		code  int64
	}{
		{"0,0 4,0 4,4;0,0 4,4 0,4", []impl.NetEdge{edge(at(0, 0), at(4, 0), 1, 1, 0), edge(at(0, 0), at(0, 4), -1, 0, 1), edge(at(0, 0), at(4, 4), 0, 1, 1), edge(at(4, 0), at(4, 4), 1, 1, 0), edge(at(0, 4), at(4, 4), -1, 0, 1)}, impl.OK},
		{"", nil, impl.OK}, {"3,3", nil, impl.OK}, {"3,3 3,3;4,4", nil, impl.OK}, {"0,0 4,0", []impl.NetEdge{edge(at(0, 0), at(4, 0), 0, 0, 0)}, impl.OK}, {"0,4 0,0 0,4 0,0", []impl.NetEdge{edge(at(0, 0), at(0, 4), 0, 0, 0)}, impl.OK},
		{"0,0 4,0 2,3 0,0 4,0 2,3;4,0 0,0 2,-3", []impl.NetEdge{edge(at(2, -3), at(0, 0), -1, 0, 1), edge(at(2, -3), at(4, 0), 1, 1, 0), edge(at(0, 0), at(4, 0), 1, 2, 1), edge(at(0, 0), at(2, 3), -2, 0, 2), edge(at(4, 0), at(2, 3), 2, 2, 0)}, impl.OK},
		{"0,0 8,0 8,8 0,8;2,2 2,4 4,4 4,2", []impl.NetEdge{edge(at(0, 0), at(8, 0), 1, 1, 0), edge(at(0, 0), at(0, 8), -1, 0, 1), edge(at(8, 0), at(8, 8), 1, 1, 0), edge(at(2, 2), at(4, 2), -1, 0, 1), edge(at(2, 2), at(2, 4), 1, 1, 0), edge(at(4, 2), at(4, 4), -1, 0, 1), edge(at(2, 4), at(4, 4), 1, 1, 0), edge(at(0, 8), at(8, 8), -1, 0, 1)}, impl.OK},
		{"0,0 4,3 0,3 4,0", nil, impl.ErrState}, {"0,0 4,0;2,0 6,0", nil, impl.ErrState}, {"0,0 4,0;2,0 2,6", nil, impl.ErrState}, {"0,0 4,0 2,0", nil, impl.ErrState},
	}
	for _, c := range cases {
		checkNetEdges(t, linesOf(c.lines))
		got, code := impl.NetEdges(linesOf(c.lines))
		check(t, "NetEdges "+c.lines, show(got, code), show(c.want, c.code))
	}
	for _, bad := range badRegions() {
		got, code := impl.NetEdges(bad)
		check(t, show("NetEdges", bad), show(got, code), show([]impl.NetEdge{}, impl.ErrInvalid))
	}
}

func TestNetEdgesRandom(t *testing.T) {
	t.Parallel()
	nets, sides := map[int64]int{}, map[int64]int{}
	for _, r := range manyRegions(700) {
		checkNetEdges(t, r)
		snapped, _, code := impl.SnapRegion(r)
		if code != impl.OK {
			continue
		}
		for _, e := range checkNetEdges(t, snapped) {
			nets[e.Net]++
			sides[e.Left]++
		}
	}
	for n := int64(-2); n <= 2; n++ {
		if nets[n] < 20 || sides[n] < 20 {
			t.Errorf("too few edges of a kind: %v %v", nets, sides)
		}
	}
	if all, code := impl.NetEdges(region{Rings: []ring{comb(400, 0, 0)}}); len(all) != 400 || code != impl.OK {
		t.Errorf("a ring with most edges has %d net edges and the code %d", len(all), code)
	}
}

// snappedBoth returns two regions after all rounds with the hot points of both together, and the greater number of rounds; false if a round leads to a region that is not valid.
func snappedBoth(a, b region) (region, region, int64, bool) {
	one, other := plainOf(a), plainOf(b)
	n := len(one.Rings)
	joined := region{Rings: slices.Concat(one.Rings, other.Rings)}
	if snapped, rounds, code := impl.SnapRegion(joined); code == impl.OK {
		return region{Rings: snapped.Rings[:n]}, region{Rings: snapped.Rings[n:]}, rounds, true
	}
	if n == 0 || n == len(joined.Rings) {
		return region{}, region{}, 0, false
	}
	// Each of both may be valid where both together are not.
	hot := wantedHot(edgesOf(joined.Rings...))
	first := roundsWith(one, hot)
	if one = first[len(first)-1]; !regionIsValid(one) {
		return region{}, region{}, 0, false
	}
	second := roundsWith(other, hot)
	other = second[len(second)-1]
	return one, other, int64(max(len(first), len(second)) - 1), regionIsValid(other)
}

// isCombined reports whether a place with some winding numbers belongs to a combination.
func isCombined(how, one, other int64) bool {
	a, b := one != 0, other != 0
	return map[int64]bool{impl.BoUnion: a || b, impl.BoMeet: a && b, impl.BoMinus: a && !b, impl.BoOdd: a != b}[how]
}

// wantedBorder returns the border edges of a combination of snapped regions, in order.
func wantedBorder(one, other [][2]pt, how int64) [][2]pt {
	var border [][2]pt
	examined := map[[2]pt]bool{}
	for _, e := range slices.Concat(one, other) {
		back := [2]pt{e[1], e[0]}
		if examined[e] || examined[back] {
			continue
		}
		examined[e] = true
		middle, way := at(e[0].X+e[1].X, e[0].Y+e[1].Y), apart(e[1], e[0])
		oneLeft, oneRight := windingsBeside(one, middle, 2, way)
		otherLeft, otherRight := windingsBeside(other, middle, 2, way)
		switch left, right := isCombined(how, oneLeft, otherLeft), isCombined(how, oneRight, otherRight); {
		case left && !right:
			border = append(border, e)
		case right && !left:
			border = append(border, back)
		}
	}
	slices.SortFunc(border, func(e, f [2]pt) int { return comparedLists(orderedPts(e[:]...), orderedPts(f[:]...)) })
	return border
}

// clockwiseFrom returns the angle, more than 0, by which one turns clockwise from a direction to another one.
func clockwiseFrom(u, v pt) float64 {
	angle := math.Atan2(float64(u.Y), float64(u.X)) - math.Atan2(float64(v.Y), float64(v.X))
	for angle <= 0 {
		angle += 2 * math.Pi
	}
	return angle
}

// wantedRings returns the rings that are traced along border edges, turned and in order.
func wantedRings(border [][2]pt) []ring {
	used := map[[2]pt]bool{}
	var lists [][]pt
	for _, first := range border {
		if used[first] {
			continue
		}
		var list []pt
		for e := first; ; {
			used[e] = true
			list = append(list, e[0])
			var next [2]pt
			least := math.Inf(1)
			for _, f := range border {
				angle := clockwiseFrom(apart(e[0], e[1]), apart(f[1], f[0]))
				if f[0] == e[1] && (!used[f] || f == first) && angle < least {
					next, least = f, angle
				}
			}
			if next == first {
				break
			}
			e = next
		}
		var turns [][]pt
		for i := range list {
			turns = append(turns, slices.Concat(list[i:], list[:i]))
		}
		lists = append(lists, slices.MinFunc(turns, comparedLists))
	}
	slices.SortFunc(lists, comparedLists)
	var rings []ring
	for _, list := range lists {
		rings = append(rings, ringOf(list...))
	}
	return rings
}

// wantedCombination combines regions by the words of the document.
func wantedCombination(a, b region, how int64) (region, int64) {
	switch {
	case !regionIsValid(a) || !regionIsValid(b):
		return region{}, impl.ErrInvalid
	case !slices.Contains(someWays(), how):
		return region{}, impl.ErrRange
	case len(edgesOf(a.Rings...))+len(edgesOf(b.Rings...)) > impl.MaxEdges:
		return region{}, impl.ErrFull
	}
	one, other, _, ok := snappedBoth(a, b)
	if !ok {
		return region{}, impl.ErrFull
	}
	r := region{Rings: wantedRings(wantedBorder(edgesOf(one.Rings...), edgesOf(other.Rings...), how))}
	if !regionIsValid(r) {
		return region{}, impl.ErrFull
	}
	return r, impl.OK
}

// combinedBy calls the function for a way to combine regions, if there is one.
func combinedBy(a, b region, how int64) (region, int64) {
	switch how {
	case impl.BoUnion:
		return impl.UnionOf(a, b)
	case impl.BoMeet:
		return impl.MeetOf(a, b)
	case impl.BoMinus:
		return impl.MinusOf(a, b)
	default:
		return impl.CombineRegions(a, b, how)
	}
}

// combineCounts are what the combinations of a test have reached.
type combineCounts struct {
	codes, rounds, rings map[int64]int
	inside, outside      int
}

func newCombineCounts() combineCounts {
	return combineCounts{codes: map[int64]int{}, rounds: map[int64]int{}, rings: map[int64]int{}}
}

// checkCombine holds all combinations of two regions against the words of the document, and against promise 15.
func (c *combineCounts) checkCombine(t *testing.T, random *rand.Rand, a, b region) {
	t.Helper()
	for _, how := range someWays() {
		want, due := wantedCombination(a, b, how)
		got, code := impl.CombineRegions(a, b, how)
		check(t, show("CombineRegions", a, b, how), show(got, code), show(want, due))
		named, code := combinedBy(a, b, how)
		check(t, show("its other name", a, b, how), show(named, code), show(want, due))
		c.codes[code]++
		if code == impl.OK {
			c.rings[int64(len(got.Rings))]++
			checkClean(t, got)
			c.checkInside(t, random, a, b, how, got)
		}
	}
	checkAreas(t, a, b)
}

// checkClean holds a combination to have the winding numbers 1 and 0 only, and to stay as it is when overlaps are removed.
func checkClean(t *testing.T, r region) {
	t.Helper()
	check(t, show("IsClean", r), impl.IsClean(r), true)
	again, code := impl.RemoveOverlap(r)
	check(t, show("RemoveOverlap again", r), show(again, code), show(r, impl.OK))
	check(t, show("snapped", r), isSnapped(r), true)
	nets, code := impl.NetEdges(r)
	check(t, show("code of NetEdges", r), code, impl.OK)
	for _, e := range nets {
		isBorder := e.Net == 1 && e.Left == 1 && e.Right == 0 || e.Net == -1 && e.Left == 0 && e.Right == 1
		check(t, show("winding numbers of a clean region", r, e), isBorder, true)
	}
}

// isFar reports whether q / k is farther than a distance from all edges.
func isFar(edges [][2]pt, q pt, k, distance int64) bool {
	for _, e := range edges {
		a := at(k*e[0].X, k*e[0].Y)
		way, to := at(k*(e[1].X-e[0].X), k*(e[1].Y-e[0].Y)), apart(q, a)
		part := max(0, min(1, float64(dotOf(to, way))/float64(dotOf(way, way))))
		if math.Hypot(float64(to.X)-part*float64(way.X), float64(to.Y)-part*float64(way.Y)) < float64(k*distance)+0.001 {
			return false
		}
	}
	return true
}

// checkInside holds a combination to have the places that it should: exactly those of the snapped regions, and, away from edges, those of the regions themselves.
func (c *combineCounts) checkInside(t *testing.T, random *rand.Rand, a, b region, how int64, got region) {
	t.Helper()
	const k = 3
	one, other, rounds, _ := snappedBoth(a, b)
	c.rounds[rounds]++
	joined := region{Rings: slices.Concat(a.Rings, b.Rings)}
	for range 8 {
		p := nearPlace(random, joined)
		q := at(k*p.X+random.Int63n(k), k*p.Y+random.Int63n(k))
		first, inFirst := wantedWinding(one, q, k)
		second, inSecond := wantedWinding(other, q, k)
		if !inFirst || !inSecond {
			continue
		}
		winding, ok := wantedWinding(got, q, k)
		want := isCombined(how, first, second)
		check(t, show("inside as the snapped regions", a, b, how, q), show(winding == 1, winding == 0, ok), show(want, !want, true))
		if want {
			c.inside++
		}
		if isFar(edgesOf(joined.Rings...), q, k, rounds) {
			first, _ = wantedWinding(a, q, k)
			second, _ = wantedWinding(b, q, k)
			check(t, show("inside as the regions", a, b, how, q), winding == 1, isCombined(how, first, second))
			c.outside++
		}
	}
}

// checkAreas holds the areas of combinations to fit together.
func checkAreas(t *testing.T, a, b region) {
	t.Helper()
	one, other, _, ok := snappedBoth(a, b)
	if !ok || len(edgesOf(a.Rings...))+len(edgesOf(b.Rings...)) > impl.MaxEdges {
		return
	}
	areas := map[string]int64{}
	measure := func(name string, r region, code int64) bool {
		area, areaCode := impl.AreaTwice(r)
		check(t, show("code of AreaTwice", r), areaCode, impl.OK)
		check(t, show("no negative area", r), area >= 0, true)
		areas[name] = area
		return code == impl.OK
	}
	for i, how := range someWays() {
		r, code := impl.CombineRegions(a, b, how)
		ok = measure([]string{"union", "meet", "minus", "odd"}[i], r, code) && ok
	}
	r, code := impl.MinusOf(b, a)
	ok = measure("back", r, code) && ok
	r, code = impl.RemoveOverlap(one)
	ok = measure("one", r, code) && ok
	r, code = impl.RemoveOverlap(other)
	if ok = measure("other", r, code) && ok; !ok {
		return
	}
	check(t, show("area of the union", a, b), areas["union"], areas["meet"]+areas["odd"])
	check(t, show("area of both differences", a, b), areas["odd"], areas["minus"]+areas["back"])
	check(t, show("area of the first one", a, b), areas["one"], areas["meet"]+areas["minus"])
	check(t, show("area of the second one", a, b), areas["other"], areas["meet"]+areas["back"])
}

func TestCombineRegions(t *testing.T) {
	check(t, "ways", show(someWays()), show([]int64{1, 2, 3, 4}))
	cases := []struct{ a, b, union, meet, minus, odd string }{
		{"0,0 4,0 4,4 0,4", "2,2 6,2 6,6 2,6", "0,0 4,0 4,2 6,2 6,6 2,6 2,4 0,4", "2,2 4,2 4,4 2,4", "0,0 4,0 4,2 2,2 2,4 0,4", "0,0 4,0 4,2 2,2 2,4 0,4;4,2 6,2 6,6 2,6 2,4 4,4"},
		// Equal regions, regions in other directions, and nothing.
		{"0,0 4,0 4,4 0,4", "4,4 4,0 0,0 0,4", "0,0 4,0 4,4 0,4", "0,0 4,0 4,4 0,4", "", ""}, {"0,0 4,0 4,4 0,4", "", "0,0 4,0 4,4 0,4", "", "0,0 4,0 4,4 0,4", "0,0 4,0 4,4 0,4"}, {"", "4,4 4,0 0,0 0,4", "0,0 4,0 4,4 0,4", "", "", "0,0 4,0 4,4 0,4"}, {"", "", "", "", "", ""}, {"3,3;5,5 5,5", "3,3 8,8", "", "", "", ""},
		// A hole, and rings that are one in another one.
		{"0,0 9,0 9,9 0,9", "3,3 3,6 6,6 6,3", "0,0 9,0 9,9 0,9", "3,3 6,3 6,6 3,6", "0,0 9,0 9,9 0,9;3,3 3,6 6,6 6,3", "0,0 9,0 9,9 0,9;3,3 3,6 6,6 6,3"}, {"3,3 6,3 6,6 3,6", "9,9 0,9 0,0 9,0", "0,0 9,0 9,9 0,9", "3,3 6,3 6,6 3,6", "", "0,0 9,0 9,9 0,9;3,3 3,6 6,6 6,3"}, {"0,0 9,0 9,9 0,9;3,3 3,6 6,6 6,3", "3,3 6,3 6,6 3,6", "0,0 9,0 9,9 0,9", "", "0,0 9,0 9,9 0,9;3,3 3,6 6,6 6,3", "0,0 9,0 9,9 0,9"},
		// Regions apart, and regions that touch along a side, or along a part of one.
		{"0,0 2,0 2,2 0,2", "5,5 7,5 7,7 5,7", "0,0 2,0 2,2 0,2;5,5 7,5 7,7 5,7", "", "0,0 2,0 2,2 0,2", "0,0 2,0 2,2 0,2;5,5 7,5 7,7 5,7"}, {"0,0 4,0 4,4 0,4", "4,0 8,0 8,4 4,4", "0,0 4,0 8,0 8,4 4,4 0,4", "", "0,0 4,0 4,4 0,4", "0,0 4,0 8,0 8,4 4,4 0,4"}, {"0,0 4,0 4,4 0,4", "4,1 8,1 8,2 4,2", "0,0 4,0 4,1 8,1 8,2 4,2 4,4 0,4", "", "0,0 4,0 4,1 4,2 4,4 0,4", "0,0 4,0 4,1 8,1 8,2 4,2 4,4 0,4"}, {"0,0 4,0 4,4 0,4", "1,4 2,4 2,8 1,8", "0,0 4,0 4,4 2,4 2,8 1,8 1,4 0,4", "", "0,0 4,0 4,4 2,4 1,4 0,4", "0,0 4,0 4,4 2,4 2,8 1,8 1,4 0,4"},
		// Rings that touch at a point: outside they stay two rings, a hole that touches the border becomes a part of its ring.
		{"0,0 4,0 4,4 0,4", "4,4 8,4 8,8 4,8", "0,0 4,0 4,4 0,4;4,4 8,4 8,8 4,8", "", "0,0 4,0 4,4 0,4", "0,0 4,0 4,4 0,4;4,4 8,4 8,8 4,8"}, {"4,0 8,0 8,4 4,4", "0,4 4,4 4,8 0,8", "4,0 8,0 8,4 4,4;0,4 4,4 4,8 0,8", "", "4,0 8,0 8,4 4,4", "4,0 8,0 8,4 4,4;0,4 4,4 4,8 0,8"}, {"0,0 9,0 9,9 0,9", "0,0 5,2 2,5", "0,0 9,0 9,9 0,9", "0,0 5,2 2,5", "0,0 9,0 9,9 0,9 0,0 2,5 5,2", "0,0 9,0 9,9 0,9 0,0 2,5 5,2"}, {"0,0 9,0 9,9 0,9", "5,0 7,5 3,5", "0,0 5,0 9,0 9,9 0,9", "5,0 7,5 3,5", "0,0 5,0 3,5 7,5 5,0 9,0 9,9 0,9", "0,0 5,0 3,5 7,5 5,0 9,0 9,9 0,9"},
		{"0,0 9,0 9,9 0,9", "2,2 4,2 4,4 2,4;4,4 6,4 6,6 4,6", "0,0 9,0 9,9 0,9", "2,2 4,2 4,4 2,4;4,4 6,4 6,6 4,6", "0,0 9,0 9,9 0,9;2,2 2,4 4,4 4,6 6,6 6,4 4,4 4,2", "0,0 9,0 9,9 0,9;2,2 2,4 4,4 4,6 6,6 6,4 4,4 4,2"}, {"0,0 4,0 2,2;4,4 0,4 2,2", "0,0 2,2 0,4;4,0 4,4 2,2", "0,0 4,0 4,4 0,4", "", "0,0 4,0 2,2;2,2 4,4 0,4", "0,0 4,0 4,4 0,4"},
		// Winding numbers other than 1, and edges that cancel out.
		{"0,0 6,0 6,6 0,6 0,0 6,0 6,6 0,6", "0,0 0,3 3,3 3,0", "0,0 3,0 6,0 6,6 0,6 0,3", "0,0 3,0 3,3 0,3", "3,0 6,0 6,6 0,6 0,3 3,3", "3,0 6,0 6,6 0,6 0,3 3,3"}, {"0,0 6,0 6,6 0,6;0,0 0,6 6,6 6,0", "0,0 3,0 3,3 0,3", "0,0 3,0 3,3 0,3", "", "", "0,0 3,0 3,3 0,3"}, {"0,0 4,0 4,4 0,4;6,0 2,0 2,4 6,4", "0,1 6,1", "0,0 2,0 2,1 2,4 0,4 0,1;4,0 6,0 6,1 6,4 4,4 4,1", "", "0,0 2,0 2,1 2,4 0,4 0,1;4,0 6,0 6,1 6,4 4,4 4,1", "0,0 2,0 2,1 2,4 0,4 0,1;4,0 6,0 6,1 6,4 4,4 4,1"},
		// Crossings of one with the other are hot points of both.
		{"0,0 8,0 8,1 0,1", "3,-3 4,-3 4,3 3,3", "3,-3 4,-3 4,0 8,0 8,1 4,1 4,3 3,3 3,1 0,1 0,0 3,0", "3,0 4,0 4,1 3,1", "0,0 3,0 3,1 0,1;4,0 8,0 8,1 4,1", "3,-3 4,-3 4,0 3,0;0,0 3,0 3,1 0,1;4,0 8,0 8,1 4,1;3,1 4,1 4,3 3,3"}, {"0,0 4,0 4,3", "0,0 4,0 0,3", "0,0 4,0 4,3 2,2 0,3", "0,0 4,0 2,2", "4,0 4,3 2,2", "0,0 2,2 0,3;4,0 4,3 2,2"},
	}
	counts, random := newCombineCounts(), fixedRandom()
	for _, c := range cases {
		for i, want := range []string{c.union, c.meet, c.minus, c.odd} {
			got, code := impl.CombineRegions(linesOf(c.a), linesOf(c.b), someWays()[i])
			check(t, show("CombineRegions", c.a, "and", c.b, someWays()[i]), show(got, code), show(linesOf(want), impl.OK))
		}
		counts.checkCombine(t, random, linesOf(c.a), linesOf(c.b))
		counts.checkCombine(t, random, linesOf(c.b), linesOf(c.a))
	}
}

// checkRemoval holds RemoveOverlap and IsClean against the words of the document.
func checkRemoval(t *testing.T, r region) (region, int64) {
	t.Helper()
	want, due := wantedCombination(r, region{}, impl.BoUnion)
	got, code := impl.RemoveOverlap(r)
	check(t, show("RemoveOverlap", r), show(got, code), show(want, due))
	check(t, show("IsClean", r), impl.IsClean(r), due == impl.OK && show(r) == show(want))
	if code == impl.OK {
		checkClean(t, got)
	}
	return got, code
}

func TestRemoveOverlap(t *testing.T) {
	cases := []struct{ lines, want string }{
		{"0,0 4,0 4,4 0,4;2,2 6,2 6,6 2,6", "0,0 4,0 4,2 6,2 6,6 2,6 2,4 0,4"}, {"0,0 4,4 0,4 4,0", "0,0 4,0 2,2;2,2 4,4 0,4"}, {"0,0 4,4;0,0 5,0 9,0", ""}, {"0,0 0,4 4,4 4,0", "0,0 4,0 4,4 0,4"}, {"", ""}, {"3,3", ""}, {"0,0 4,0 4,4 0,4;3,3", "0,0 4,0 4,4 0,4"}, {"4,4 0,4 0,0 4,0", "0,0 4,0 4,4 0,4"}, {"0,0 0,0 4,0 4,4 0,4 0,4", "0,0 4,0 4,4 0,4"}, {"0,0 2,0 4,0 4,4 0,4", "0,0 2,0 4,0 4,4 0,4"},
		{"9,9 10,9 9,10;0,0 4,0 4,4", "0,0 4,0 4,4;9,9 10,9 9,10"}, {"0,0 9,0 9,9 0,9;3,3 6,3 6,6 3,6", "0,0 9,0 9,9 0,9"}, {"0,0 9,0 9,9 0,9;3,3 3,6 6,6 6,3", "0,0 9,0 9,9 0,9;3,3 3,6 6,6 6,3"}, {"0,0 9,0 9,9 0,9 0,0 0,9 9,9 9,0", ""}, {"0,0 4,0 4,4 0,4 0,0 4,0 4,4 0,4", "0,0 4,0 4,4 0,4"}, {"0,0 4,0 4,4 0,4;0,0 4,0 4,4 0,4;4,0 0,0 0,4 4,4", "0,0 4,0 4,4 0,4"},
		{"0,0 4,0 4,4 0,4;4,0 8,0 8,4 4,4", "0,0 4,0 8,0 8,4 4,4 0,4"}, {"0,0 4,0 4,4 0,4;4,0 4,4 8,4 8,0", "0,0 4,0 8,0 8,4 4,4 0,4"}, {"0,0 4,0 4,4 8,4 8,8 4,8 4,4 0,4", "0,0 4,0 4,4 0,4;4,4 8,4 8,8 4,8"}, {"0,0 4,0 4,4 9,4 4,4 0,4", "0,0 4,0 4,4 0,4"}, {"0,0 4,3 0,3 4,0", "0,0 4,0 2,2;2,2 4,3 0,3"},
		// Three rings that touch at one point, and three holes that do.
		{"0,0 4,0 2,4;2,4 -2,4 -2,2;2,4 4,8 0,8", "0,0 4,0 2,4;-2,2 2,4 -2,4;2,4 4,8 0,8"}, {"-9,-9 20,-9 20,20 -9,20;0,0 2,4 4,0;2,4 -2,2 -2,4;2,4 0,8 4,8", "-9,-9 20,-9 20,20 -9,20;0,0 2,4 -2,2 -2,4 2,4 0,8 4,8 2,4 4,0"},
		// A ring that touches its own border twice, and one around it.
		{"0,0 8,0 8,8 0,8;4,0 8,4 4,8 0,4", "0,0 4,0 8,0 8,4 8,8 4,8 0,8 0,4"}, {"0,0 8,0 8,8 0,8;4,0 0,4 4,8 8,4", "0,0 4,0 0,4;4,0 8,0 8,4;0,4 4,8 0,8;8,4 8,8 4,8"},
	}
	for _, c := range cases {
		got, code := checkRemoval(t, linesOf(c.lines))
		check(t, "RemoveOverlap "+c.lines, show(got, code), show(linesOf(c.want), impl.OK))
		check(t, "IsClean "+c.lines, impl.IsClean(linesOf(c.lines)), c.lines == c.want)
	}
	for _, lines := range []string{"0,0 4,0 4,4 0,4", "0,0 9,0 9,9 0,9;3,3 3,6 6,6 6,3", "0,0 4,0 4,4 0,4;4,4 8,4 8,8 4,8", "0,0 9,0 9,9 0,9 0,0 2,5 5,2", "-262144,-262144 262144,-262144 262144,262144 -262144,262144"} {
		check(t, "is clean: "+lines, impl.IsClean(linesOf(lines)), true)
		checkRemoval(t, linesOf(lines))
	}
	for _, lines := range []string{"4,0 4,4 0,4 0,0", "0,0 4,4 4,0", "4,4 8,4 8,8 4,8;0,0 4,0 4,4 0,4", "0,0 9,0 9,9 0,9;3,3 6,3 6,6 3,6", "0,0 4,0 4,4 0,4;9,9", "0,0 4,0 4,4 0,4;4,1 8,1 8,2 4,2", "0,0 9,0 9,9 0,9 0,0 2,5 5,2 0,0", "0,0 2,5 5,2 0,0 9,0 9,9 0,9", "0,0 4,0"} {
		check(t, "is clean: "+lines, impl.IsClean(linesOf(lines)), false)
		checkRemoval(t, linesOf(lines))
	}
	for _, bad := range badRegions() {
		got, code := impl.RemoveOverlap(bad)
		check(t, show("RemoveOverlap", bad), show(got, code, impl.IsClean(bad)), show(region{}, impl.ErrInvalid, false))
	}
}

// TestRemoveOverlapSmall checks all rings of four points of a small grid, alone and with a triangle.
func TestRemoveOverlapSmall(t *testing.T) {
	random, rings := fixedRandom(), map[int]int{}
	grid := gridPts(0, 2)
	for i, a := range grid {
		for k, b := range grid {
			for l, c := range grid {
				for n, d := range grid {
					if i >= min(k, l, n) {
						continue
					}
					r := region{Rings: []ring{ringOf(a, b, c, d)}}
					alone, _ := checkRemoval(t, r)
					r.Rings = append(r.Rings, ringOf(pick(random, grid), pick(random, grid), pick(random, grid)))
					both, _ := checkRemoval(t, r)
					rings[len(alone.Rings)]++
					rings[len(both.Rings)]++
				}
			}
		}
	}
	if rings[0] < 100 || rings[1] < 500 || rings[2] < 20 {
		t.Errorf("too few results with a number of rings: %v", rings)
	}
}

func TestRemoveOverlapRandom(t *testing.T) {
	t.Parallel()
	random, rings := fixedRandom(), map[int]int{}
	for range 1500 {
		r, _ := checkRemoval(t, randomRegion(random))
		rings[min(len(r.Rings), 5)]++
	}
	for n := range 6 {
		if rings[n] < 20 {
			t.Errorf("too few results with a number of rings: %v", rings)
		}
	}
	for _, r := range goodRegions() {
		checkRemoval(t, r)
	}
}

func TestCombineRegionsRandom(t *testing.T) {
	t.Parallel()
	counts, random := newCombineCounts(), fixedRandom()
	for range 450 {
		counts.checkCombine(t, random, randomRegion(random), randomRegion(random))
	}
	// Triangles of a small grid often have equal edges, or parts of them.
	grid := gridPts(0, 3)
	triangle := func() region {
		return region{Rings: []ring{ringOf(pick(random, grid), pick(random, grid), pick(random, grid))}}
	}
	for range 600 {
		counts.checkCombine(t, random, triangle(), triangle())
	}
	if counts.rounds[0] < 100 || counts.rounds[1] < 100 || counts.rounds[2] < 100 || counts.rounds[3] < 20 || counts.rings[0] < 100 || counts.rings[1] < 100 || counts.rings[2] < 100 || counts.inside < 1000 || counts.outside < 3000 {
		t.Errorf("the regions of this test do not reach all kinds of results: %v", counts)
	}
}

// cell is a square of a grid.
type cell [2]int64

// grille maps the corners of cells to points, by which all cells become the same parallelogram.
type grille struct{ u, v pt }

func (g grille) at(x, y int64) pt { return at(x*g.u.X+y*g.v.X, x*g.u.Y+y*g.v.Y) }

// regionOf returns the region with a ring for each cell, in any direction and beginning at any corner.
func (g grille) regionOf(random *rand.Rand, cells map[cell]bool) region {
	var r region
	for x := range int64(7) {
		for y := range int64(7) {
			if !cells[cell{x, y}] {
				continue
			}
			list := []pt{g.at(2*x, 2*y), g.at(2*x+2, 2*y), g.at(2*x+2, 2*y+2), g.at(2*x, 2*y+2)}
			if random.Intn(2) == 0 {
				slices.Reverse(list)
			}
			i := random.Intn(4)
			r.Rings = append(r.Rings, ringOf(slices.Concat(list[i:], list[:i])...))
		}
	}
	random.Shuffle(len(r.Rings), func(i, k int) { r.Rings[i], r.Rings[k] = r.Rings[k], r.Rings[i] })
	return r
}

// spread takes a cell and all that hang together with it out of a set, and returns them; corners count if there are eight ways.
func spread(cells map[cell]bool, from cell, ways int) map[cell]bool {
	part, open := map[cell]bool{}, []cell{from}
	for len(open) > 0 {
		c := open[0]
		open = open[1:]
		if !cells[c] {
			continue
		}
		delete(cells, c)
		part[c] = true
		next := []cell{{c[0] + 1, c[1]}, {c[0] - 1, c[1]}, {c[0], c[1] + 1}, {c[0], c[1] - 1}, {c[0] + 1, c[1] + 1}, {c[0] + 1, c[1] - 1}, {c[0] - 1, c[1] + 1}, {c[0] - 1, c[1] - 1}}
		open = append(open, next[:ways]...)
	}
	return part
}

// countBorders returns the number of rings around a set of cells: for each part that hangs together by sides, one for each part of the rest that hangs together by sides or corners.
// So parts that touch at a corner have rings of their own, and holes that do have one together.
func countBorders(cells map[cell]bool) int {
	left, count := map[cell]bool{}, 0
	for c := range cells {
		left[c] = true
	}
	for c := range cells {
		part := spread(left, c, 4)
		rest := map[cell]bool{}
		for x := int64(-1); x <= 7; x++ {
			for y := int64(-1); y <= 7; y++ {
				rest[cell{x, y}] = !part[cell{x, y}] && len(part) > 0
			}
		}
		for x := int64(-1); x <= 7; x++ {
			for y := int64(-1); y <= 7; y++ {
				if rest[cell{x, y}] {
					spread(rest, cell{x, y}, 8)
					count++
				}
			}
		}
	}
	return count
}

// checkCells holds a region to have exactly some cells, and as many rings and edges as these have.
func (g grille) checkCells(t *testing.T, r region, cells map[cell]bool) {
	t.Helper()
	sides := 0
	for x := int64(-1); x <= 7; x++ {
		for y := int64(-1); y <= 7; y++ {
			inside := cells[cell{x, y}]
			winding, ok := impl.WindingOf(r, g.at(2*x+1, 2*y+1))
			check(t, show("in a cell", x, y, r), show(winding == 1, winding == 0, ok), show(inside, !inside, true))
			for _, next := range []cell{{x + 1, y}, {x, y + 1}} {
				if cells[next] != inside {
					sides++
				}
			}
		}
	}
	edges, _ := impl.EdgeCount(r)
	check(t, show("edges", r), edges, int64(sides))
	check(t, show("rings", r), len(r.Rings), countBorders(cells))
	area, _ := impl.AreaTwice(r)
	check(t, show("area", r), area, int64(len(cells))*8*crossOf(g.u, g.v))
	checkClean(t, r)
}

func numberOf(is bool) int64 {
	if is {
		return 1
	}
	return 0
}

// TestCells combines sets of squares, most of which touch at sides or corners.
func TestCells(t *testing.T) {
	t.Parallel()
	random := fixedRandom()
	grilles := []grille{{at(1, 0), at(0, 1)}, {at(0, 1), at(-1, 0)}, {at(7, 3), at(-2, 8)}, {at(-9, 0), at(5, -4)}, {at(1, 1), at(-1, 1)}, {at(900, 0), at(-1000, 800)}, {at(-3, 11), at(-13, -2)}}
	most := 0
	for i := range 140 {
		g, share := grilles[i%len(grilles)], 1+random.Intn(9)
		one, other := map[cell]bool{}, map[cell]bool{}
		for x := range int64(7) {
			for y := range int64(7) {
				if random.Intn(10) < share && len(one) < impl.MaxRings {
					one[cell{x, y}] = true
				}
				if random.Intn(10) < share && len(other) < impl.MaxRings {
					other[cell{x, y}] = true
				}
			}
		}
		a, b := g.regionOf(random, one), g.regionOf(random, other)
		for _, how := range someWays() {
			cells := map[cell]bool{}
			for x := range int64(7) {
				for y := range int64(7) {
					c := cell{x, y}
					if isCombined(how, numberOf(one[c]), numberOf(other[c])) {
						cells[c] = true
					}
				}
			}
			r, code := impl.CombineRegions(a, b, how)
			check(t, show("code of CombineRegions", a, b, how), code, impl.OK)
			g.checkCells(t, r, cells)
			most = max(most, len(r.Rings))
		}
	}
	if most < 12 {
		t.Errorf("no result has more than %d rings", most)
	}
}

// bars returns rectangles that cross a place of 10 by 10 for each of those in the other direction: level ones, or upright ones.
func bars(count, others int64, upright bool) region {
	var r region
	for k := range count {
		low, high := at(-5, 10*k), at(10*others, 10*k+4)
		if upright {
			low, high = at(low.Y, low.X), at(high.Y, high.X)
		}
		r.Rings = append(r.Rings, ringOf(low, at(high.X, low.Y), high, at(low.X, high.Y)))
	}
	return r
}

func with(r region, rings ...ring) region { return region{Rings: slices.Concat(r.Rings, rings)} }

// TestCombineLimits is about the numbers of edges and rings before, during and after the combination.
func TestCombineLimits(t *testing.T) {
	const f = -5000
	dots, squares := sameRings(40, "3,3"), sameRings(40, "0,0 4,0 4,4 0,4")
	twice := func(more int) region {
		return region{Rings: []ring{ringOf(points("18,2 12,2 16,2 0,0")...), comb(more, f, f)}}
	}
	of := func(rings ...ring) region { return region{Rings: rings} }
	cases := []struct {
		what         string
		a, b         region
		how          int64
		code         int64
		rings, edges int
	}{
		{"most edges together", of(comb(200, 0, 0)), of(comb(200, 0, f)), impl.BoUnion, impl.OK, 2, 400}, {"one edge more", of(comb(201, 0, 0)), of(comb(200, 0, f)), impl.BoUnion, impl.ErrFull, 0, 0}, {"one edge more, common part", of(comb(200, 0, 0)), of(comb(201, 0, f)), impl.BoMeet, impl.ErrFull, 0, 0}, {"one edge more, difference", of(comb(200, 0, 0)), of(comb(201, 0, f)), impl.BoMinus, impl.ErrFull, 0, 0}, {"one edge more, odd", of(comb(200, 0, 0)), of(comb(201, 0, f)), impl.BoOdd, impl.ErrFull, 0, 0},
		{"most edges in one", of(comb(400, 0, 0)), region{}, impl.BoUnion, impl.OK, 1, 400}, {"most edges in the other", region{}, of(comb(400, 0, 0)), impl.BoMeet, impl.OK, 0, 0}, {"most edges and a point", of(comb(400, 0, 0)), regionOf("3,3 3,3", "4,4"), impl.BoMinus, impl.OK, 1, 400}, {"most edges and two", of(comb(399, 0, 0)), linesOf("3,3 4,4"), impl.BoMinus, impl.ErrFull, 0, 0},
		{"most points twice", sameRings(40, repeated("0,0", "0,0", 400)), sameRings(40, repeated("1,1", "0,0", 400)), impl.BoUnion, impl.OK, 0, 0}, {"many points twice", sameRings(40, repeated("0,0", "0,0", 400)), sameRings(40, repeated("1,1", "1,1", 400)), impl.BoUnion, impl.OK, 0, 0},
		{"most rings twice", dots, dots, impl.BoUnion, impl.OK, 0, 0}, {"most rings twice, equal ones", squares, squares, impl.BoUnion, impl.OK, 1, 4}, {"most rings twice, points and squares", dots, squares, impl.BoOdd, impl.OK, 1, 4},
		{"40 rings result", bars(5, 8, false), bars(8, 5, true), impl.BoMeet, impl.OK, 40, 160}, {"41 rings result", with(bars(5, 8, false), comb(9, f, f)), with(bars(8, 5, true), comb(9, f, f)), impl.BoMeet, impl.ErrFull, 0, 0}, {"42 rings result", bars(6, 7, false), bars(7, 6, true), impl.BoMeet, impl.ErrFull, 0, 0}, {"many rings do not result", bars(6, 7, false), bars(7, 6, true), impl.BoUnion, impl.OK, 31, 220},
		{"a round to most edges in the other", bars(1, 37, false), with(bars(37, 1, true), comb(104, f, f)), impl.BoMeet, impl.OK, 37, 148}, {"a round to one more in the other", bars(1, 37, false), with(bars(37, 1, true), comb(105, f, f)), impl.BoMeet, impl.ErrFull, 0, 0}, {"a round to most edges in the one", with(bars(37, 1, true), comb(104, f, f)), bars(1, 37, false), impl.BoMeet, impl.OK, 37, 148}, {"a round to one more in the one", with(bars(37, 1, true), comb(105, f, f)), bars(1, 37, false), impl.BoMeet, impl.ErrFull, 0, 0},
		{"a second round to most edges", twice(392), region{}, impl.BoUnion, impl.OK, 1, 392}, {"a second round to one more", twice(393), region{}, impl.BoUnion, impl.ErrFull, 0, 0}, {"a second round to one more in the other", region{}, twice(393), impl.BoMinus, impl.ErrFull, 0, 0},
		{"more than most edges together after a round", bars(2, 30, false), bars(30, 2, true), impl.BoUnion, impl.OK, 30, 368}, {"most edges in the result", bars(2, 30, false), with(bars(30, 2, true), comb(32, f, f)), impl.BoUnion, impl.OK, 31, 400}, {"one more in the result", bars(2, 30, false), with(bars(30, 2, true), comb(33, f, f)), impl.BoUnion, impl.ErrFull, 0, 0},
		{"many crossings", of(star()), region{}, impl.BoMeet, impl.ErrFull, 0, 0}, {"most corners", of(ringOf(ringPts()...)), region{}, impl.BoUnion, impl.OK, 1, 400},
	}
	for _, c := range cases {
		got, code := impl.CombineRegions(c.a, c.b, c.how)
		check(t, c.what, show(code, len(got.Rings), len(edgesOf(got.Rings...))), show(c.code, c.rings, c.edges))
		want, due := wantedCombination(c.a, c.b, c.how)
		check(t, c.what+", by the rules", show(got, code), show(want, due))
		named, code := combinedBy(c.a, c.b, c.how)
		check(t, c.what+", by the other name", show(named, code), show(want, due))
	}
}

func TestCombineCodes(t *testing.T) {
	full, good := region{Rings: []ring{comb(400, 0, 0)}}, linesOf("0,0 4,0 4,4 0,4")
	numbers := append(extremeNumbers(), someWays()...)
	for _, how := range numbers {
		for _, bad := range badRegions() {
			for _, other := range []region{bad, {}, good, full} {
				for _, pair := range [][2]region{{bad, other}, {other, bad}} {
					got, code := impl.CombineRegions(pair[0], pair[1], how)
					check(t, show("an invalid region", how), show(got, code), show(region{}, impl.ErrInvalid))
				}
			}
		}
		if slices.Contains(someWays(), how) {
			continue
		}
		for _, pair := range [][2]region{{{}, {}}, {good, good}, {full, good}, {full, full}} {
			got, code := impl.CombineRegions(pair[0], pair[1], how)
			check(t, show("no way to combine", how), show(got, code), show(region{}, impl.ErrRange))
		}
	}
	for _, bad := range badRegions() {
		for _, how := range someWays()[:3] {
			got, code := combinedBy(bad, good, how)
			back, other := combinedBy(good, bad, how)
			check(t, show("an invalid region", how), show(got, code, back, other), show(region{}, impl.ErrInvalid, region{}, impl.ErrInvalid))
		}
	}
}

// wantedArea returns twice the area of a region as a sum of triangles with a common corner.
func wantedArea(r region) int64 {
	total := int64(0)
	for _, g := range r.Rings {
		for i := range g.Points[1:] {
			total += leftOf(g.Points[0], g.Points[i], g.Points[i+1])
		}
	}
	return total
}

func TestAreaTwice(t *testing.T) {
	const m = impl.MaxCoord
	cases := map[string]int64{
		"": 0, "5,5": 0, "5,5 5,5": 0, "1,2 7,9": 0, "0,0 4,0 4,4 0,4": 32, "0,4 4,4 4,0 0,0": -32, "0,0 4,0 4,4 0,4;2,2 6,2 6,6 2,6;9,0 9,4 13,4 13,0": 32, "0,0 4,0 4,4 0,4;3,3 8,3;7,7": 32, "0,0 4,0 4,4 0,4 0,0 4,0 4,4 0,4": 64, "0,0 8,8 0,8 8,0": 0, "7,7 8,7 7,8": 1, "0,0 0,0 3,0 3,0 0,5": 15,
		"-262144,-262144 262144,-262144 262144,262144 -262144,262144": 8 * m * m, "262144,-262144 -262144,-262144 -262144,262144 262144,262144": -8 * m * m,
	}
	for lines, want := range cases {
		area, code := impl.AreaTwice(linesOf(lines))
		check(t, "AreaTwice "+lines, show(area, code), show(want, impl.OK))
	}
	great := ringOf(slices.Repeat(points("-262144,-262144 262144,-262144 262144,262144 -262144,262144"), 100)...)
	area, code := impl.AreaTwice(region{Rings: []ring{great}})
	check(t, "the greatest area", show(area, code), show(int64(800*m*m), impl.OK))
	for _, r := range manyRegions(500) {
		area, code := impl.AreaTwice(r)
		check(t, show("AreaTwice", r), show(area, code), show(wantedArea(r), impl.OK))
	}
	for _, bad := range badRegions() {
		area, code := impl.AreaTwice(bad)
		check(t, show("AreaTwice", bad), show(area, code), show(0, impl.ErrInvalid))
	}
}

func TestReverseRegion(t *testing.T) {
	cases := map[string]string{"": "", "5,5": "5,5", "0,0 4,0": "4,0 0,0", "0,0 4,0 4,4": "4,4 4,0 0,0", "0,0 0,0 4,0 4,4 0,4": "0,4 4,4 4,0 0,0 0,0", "0,0 1,0;2,0 3,0 3,1;7,7": "1,0 0,0;3,1 3,0 2,0;7,7"}
	for lines, want := range cases {
		got, code := impl.ReverseRegion(linesOf(lines))
		check(t, "ReverseRegion "+lines, show(got, code), show(linesOf(want), impl.OK))
	}
	for _, r := range manyRegions(300) {
		back, code := impl.ReverseRegion(r)
		check(t, show("code of ReverseRegion", r), code, impl.OK)
		again, code := impl.ReverseRegion(back)
		check(t, show("ReverseRegion again", r), show(again, code), show(r, impl.OK))
		area, _ := impl.AreaTwice(r)
		opposite, _ := impl.AreaTwice(back)
		check(t, show("area of the reverse", r), opposite, -area)
	}
	for _, bad := range badRegions() {
		got, code := impl.ReverseRegion(bad)
		check(t, show("ReverseRegion", bad), show(got, code), show(region{}, impl.ErrInvalid))
	}
}

// combineResults are what the functions of chapter 14 return.
type combineResults struct {
	winding, where, area int64
	ok, clean            bool
	nets                 []impl.NetEdge
	regions              []region
	codes                []int64
}

func combineResultsOf(a, b region, p pt, how int64) combineResults {
	r := combineResults{codes: make([]int64, 9), regions: make([]region, 6)}
	r.winding, r.ok = impl.WindingOf(a, p)
	r.clean = impl.IsClean(a)
	r.regions[0], r.codes[0] = impl.RemoveOverlap(a)
	r.regions[1], r.codes[1] = impl.CombineRegions(a, b, how)
	r.regions[2], r.codes[2] = impl.UnionOf(a, b)
	r.regions[3], r.codes[3] = impl.MeetOf(a, b)
	r.regions[4], r.codes[4] = impl.MinusOf(a, b)
	r.regions[5], r.codes[5] = impl.ReverseRegion(a)
	r.where, r.codes[6] = impl.PointIn(a, p)
	r.area, r.codes[7] = impl.AreaTwice(a)
	r.nets, r.codes[8] = impl.NetEdges(a)
	return r
}

// checkZero holds everything that comes with an error, or with false, to be 0.
func (r combineResults) checkZero(t *testing.T) {
	t.Helper()
	var zero []bool
	for _, other := range r.regions {
		zero = append(zero, len(other.Rings) == 0)
	}
	for i, isZero := range append(zero, r.where == 0, r.area == 0, len(r.nets) == 0) {
		if r.codes[i] != impl.OK && !isZero {
			t.Errorf("result %d is not 0 though the code is %d: %+v", i, r.codes[i], r)
		}
	}
	check(t, "winding number with false", r.ok || r.winding == 0, true)
}

// overwriteResults sets all memory of the results, list by list, and holds the others to stay as they are.
func (r combineResults) overwriteResults(t *testing.T) {
	t.Helper()
	var lists [][]pt
	for _, other := range r.regions {
		lists = append(lists, pointsOf(other)...)
	}
	for i, list := range lists {
		before := show(lists[i+1:])
		overwrite(list, at(55, 55))
		check(t, "later results", show(lists[i+1:]), before)
	}
	for _, other := range r.regions {
		overwrite(other.Rings, ringOf(at(55, 55)))
	}
	overwrite(r.nets, impl.NetEdge{Net: 55})
}

// TestCombinationsTotal is promise 1 for chapter 14: all functions return for all arguments, twice alike, in new memory, and keep their arguments.
func TestCombinationsTotal(t *testing.T) {
	t.Parallel()
	random, numbers := fixedRandom(), extremeNumbers()
	regions := append(badRegions(), manyRegions(300)...)
	for _, lines := range []string{"0,0 9,0 9,9 0,9 0,0 2,5 5,2", "0,0 4,0 4,4 0,4;4,4 8,4 8,8 4,8", "0,0 9,0 9,9 0,9;3,3 3,6 6,6 6,3"} {
		regions = append(regions, slices.Repeat([]region{linesOf(lines)}, 10)...)
	}
	cleans := 0
	for range 1500 {
		a, b := roomyRegion(pick(random, regions)), roomyRegion(pick(random, regions))
		p, how := placeIn(random, 9), 1+random.Int63n(4)
		switch random.Intn(9) {
		case 0:
			p = at(pick(random, numbers), pick(random, numbers))
		case 1:
			how = pick(random, numbers)
		case 2:
			if len(a.Rings) > 0 && len(a.Rings[0].Points) > 0 {
				a.Rings[0].Points[0] = at(pick(random, numbers), pick(random, numbers))
			}
		}
		before := regionMemory(a) + regionMemory(b)
		first := combineResultsOf(a, b, p, how)
		first.checkZero(t)
		shown := show(first)
		if first.clean {
			cleans++
		}
		check(t, "arguments after all calls", regionMemory(a)+regionMemory(b), before)
		first.overwriteResults(t)
		check(t, "arguments after results are overwritten", regionMemory(a)+regionMemory(b), before)
		if shown != show(combineResultsOf(a, b, p, how)) {
			t.Fatal("equal arguments have different results: ", a, b, p, how)
		}
	}
	if cleans < 50 {
		t.Errorf("only %d regions are clean", cleans)
	}
}
