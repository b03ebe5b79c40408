package tests

import (
	"cmp"
	"fmt"
	"maps"
	"math/rand"
	"slices"
	"strings"
	"testing"

	"loop.example/g00883/impl"
)

type stem = impl.Stem

func TestAutoHintConstants(t *testing.T) {
	check(t, "constants", show(impl.MaxStems, impl.MaxZones, impl.LeastLeg), show(24, 8, 8))
}

// straight is an edge as the document says it: the knots at which it begins and ends, its coordinate, and the places from which and to which it leads.
type straight struct {
	first, next, coordinate, from, to int64
}

func wantedEdges(o outline, axisY bool) []straight {
	var list []straight
	behind := int64(0)
	for _, l := range o.Loops {
		n := int64(len(l.Knots))
		for i := range n {
			a, b := l.Knots[i], l.Knots[(i+1)%n]
			e, level := straight{first: behind + i, next: behind + i + 1, coordinate: a.At.X, from: a.At.Y, to: b.At.Y}, b.At.X
			if axisY {
				e.coordinate, e.from, e.to, level = a.At.Y, a.At.X, b.At.X, b.At.Y
			}
			if i == n-1 {
				e.next = behind
			}
			if a.On && b.On && e.coordinate == level && (e.to-e.from >= 8 || e.from-e.to >= 8) {
				list = append(list, e)
			}
		}
		behind += n
	}
	return list
}

// isLow tells whether an edge is a low one.
func (e straight) isLow(axisY bool) bool {
	if axisY {
		return e.to > e.from
	}
	return e.to < e.from
}

// wantedPairs tells what the document says of the edges of stems, low ones first.
func wantedPairs(o outline, axisY bool) [][2]straight {
	edges := wantedEdges(o, axisY)
	highs := slices.DeleteFunc(slices.Clone(edges), func(e straight) bool { return e.isLow(axisY) })
	slices.SortFunc(highs, func(a, b straight) int {
		return cmp.Or(cmp.Compare(a.coordinate, b.coordinate), cmp.Compare(a.first, b.first))
	})
	var pairs [][2]straight
	for _, low := range edges {
		if !low.isLow(axisY) {
			continue
		}
		i := slices.IndexFunc(highs, func(high straight) bool {
			common := min(max(low.from, low.to), max(high.from, high.to)) - max(min(low.from, low.to), min(high.from, high.to))
			return high.coordinate > low.coordinate && common > 0
		})
		if i >= 0 {
			pairs = append(pairs, [2]straight{low, highs[i]})
		}
	}
	slices.SortFunc(pairs, func(p, q [2]straight) int {
		return cmp.Or(cmp.Compare(p[0].coordinate, q[0].coordinate), cmp.Compare(p[0].first, q[0].first))
	})
	return pairs[:min(len(pairs), 24)]
}

func wantedStems(o outline, axisY bool) []stem {
	var list []stem
	for _, p := range wantedPairs(o, axisY) {
		list = append(list, stem{Low: p[0].first, High: p[1].first, From: p[0].coordinate, Width: p[1].coordinate - p[0].coordinate})
	}
	return list
}

// checkStems holds EdgesAlong and StemsOf for a valid outline and both axes.
func checkStems(t *testing.T, o outline) {
	t.Helper()
	for _, axisY := range []bool{true, false} {
		var begins []int64
		for _, e := range wantedEdges(o, axisY) {
			begins = append(begins, e.first)
		}
		got, code := impl.EdgesAlong(o, axisY)
		check(t, show("EdgesAlong", o, axisY), show(got, code), show(begins, impl.OK))
		stems, code := impl.StemsOf(o, axisY)
		check(t, show("StemsOf", o, axisY), show(stems, code), show(wantedStems(o, axisY), impl.OK))
	}
}

func TestEdgesAlong(t *testing.T) {
	for _, c := range []struct {
		lines []string
		y, x  []int64
	}{
		{nil, nil, nil}, {[]string{"0,0"}, nil, nil}, {[]string{"0,0 0,0"}, nil, nil},
		{[]string{"0,0 8,0"}, []int64{0, 1}, nil}, {[]string{"0,0 7,0"}, nil, nil}, {[]string{"0,0 -8,0"}, []int64{0, 1}, nil}, {[]string{"0,0 -7,0"}, nil, nil},
		{[]string{"0,0 0,8"}, nil, []int64{0, 1}}, {[]string{"0,0 0,7"}, nil, nil}, {[]string{"0,0 0,-8"}, nil, []int64{0, 1}}, {[]string{"0,0 0,-7"}, nil, nil},
		{[]string{"0,0 0,8 8,8"}, []int64{1}, []int64{0}}, {[]string{"0,0 8,1 16,1 16,8"}, []int64{1}, nil}, {[]string{"0,0 8,0 16,0 16,8"}, []int64{0, 1}, []int64{2}},
		// Both knots of an edge are on the curve, and an implied knot begins none.
		{[]string{"0,0 ~8,0 16,0"}, []int64{2}, nil}, {[]string{"0,0 8,0 ~16,0"}, []int64{0}, nil}, {[]string{"0,0 0,8 ~0,16"}, nil, []int64{0}}, {[]string{"0,0 ~0,0 ~16,0"}, nil, nil}, {[]string{"0,0 9,0 ~9,9 ~0,9"}, []int64{0}, nil}, {[]string{"0,0 ~0,-9 9,0"}, []int64{2}, nil},
		// Indices go on from loop to loop, and each loop leads back to its own first knot.
		{[]string{"0,0 1,1", "5,5", "0,0 8,0"}, []int64{3, 4}, nil}, {[]string{"0,0 5,5 50,0", "100,0 60,60 0,60"}, []int64{2, 4}, nil}, {[]string{"0,0 0,9 ~5,5", "3,3 3,30 4,50 4,3"}, nil, []int64{0, 3, 5}},
		{[]string{"-262144,262144 262144,262144 262144,-262144 -262144,-262144"}, []int64{0, 2}, []int64{1, 3}},
	} {
		o := outlineOf(c.lines...)
		y, one := impl.EdgesAlong(o, true)
		x, other := impl.EdgesAlong(o, false)
		check(t, show("EdgesAlong", c.lines), show(y, one, x, other), show(c.y, 0, c.x, 0))
		checkStems(t, o)
	}
}

// bar returns a loop of two knots along x, with a low edge that begins at the first one and a high one at the second one.
func bar(from, to, y int64) string { return fmt.Sprintf("%d,%d %d,%d", from, y, to, y) }

// clockwise returns an outline that is turned by a quarter, so that y becomes x and low edges remain low ones.
func clockwise(o outline) outline {
	turned, _ := wantedPlaces(o, func(p pt) pt { return at(p.Y, -p.X) })
	return turned
}

// rowsOf returns the numbers of stems: Low, High, From and Width.
func rowsOf(stems []stem) [][4]int64 {
	var rows [][4]int64
	for _, s := range stems {
		rows = append(rows, [4]int64{s.Low, s.High, s.From, s.Width})
	}
	return rows
}

func TestStemsOf(t *testing.T) {
	for _, c := range []struct {
		what  string
		lines []string
		stems [][4]int64
	}{
		{"nothing", nil, nil},
		{"a box", []string{"0,0 60,0 60,700 0,700"}, [][4]int64{{0, 2, 0, 700}}},
		{"a box in the other direction", []string{"0,0 0,700 60,700 60,0"}, nil},
		{"a box that begins at the top", []string{"60,700 0,700 0,0 60,0"}, [][4]int64{{2, 0, 0, 700}}},
		{"a ring", []string{"0,0 200,0 200,700 0,700", "60,60 60,640 140,640 140,60"}, [][4]int64{{0, 7, 0, 60}, {5, 2, 640, 60}}},
		{"one place in common, on the right", []string{bar(0, 10, 0), bar(10, 20, 50)}, nil},
		{"one place in common, on the left", []string{bar(0, 10, 0), bar(-10, 0, 50)}, nil},
		{"two places in common, on the right", []string{bar(0, 10, 0), bar(9, 20, 50)}, [][4]int64{{0, 3, 0, 50}}},
		{"two places in common, on the left", []string{bar(0, 10, 0), bar(-10, 1, 50)}, [][4]int64{{0, 3, 0, 50}}},
		{"no place in common", []string{bar(0, 10, 0), bar(11, 20, 50), bar(-9, -1, 60)}, nil},
		{"all places", []string{bar(0, 10, 0), bar(0, 10, 50)}, [][4]int64{{0, 3, 0, 50}}},
		{"a longer one above", []string{bar(0, 10, 0), bar(-5, 15, 50)}, [][4]int64{{0, 3, 0, 50}}},
		{"a shorter one above", []string{bar(0, 10, 0), bar(1, 9, 50)}, [][4]int64{{0, 3, 0, 50}}},
		{"a high one that is lower", []string{bar(0, 10, 0), bar(0, 10, -50)}, [][4]int64{{2, 1, -50, 50}}},
		{"one unit above", []string{bar(0, 10, 0), bar(0, 10, 1)}, [][4]int64{{0, 3, 0, 1}}},
		{"the same coordinate", []string{bar(0, 10, 0), bar(0, 10, 0)}, nil},
		{"the least coordinate", []string{bar(0, 10, 0), bar(0, 10, 90), bar(0, 10, 30), bar(0, 10, 60)}, [][4]int64{{0, 5, 0, 30}, {4, 7, 30, 30}, {6, 3, 60, 30}}},
		{"the least coordinate of those that are faced", []string{bar(0, 10, 0), bar(20, 30, 10), bar(0, 10, 50)}, [][4]int64{{0, 5, 0, 50}}},
		{"the first one of several", []string{bar(0, 100, 0), bar(50, 60, 40), bar(0, 10, 40), bar(80, 90, 40)}, [][4]int64{{0, 3, 0, 40}}},
		{"several low ones for a high one", []string{bar(0, 20, 0), bar(30, 50, 10), bar(0, 50, 100)}, [][4]int64{{0, 5, 0, 100}, {2, 5, 10, 90}}},
		{"in the order of coordinates and then of indices", []string{bar(0, 10, 70), bar(20, 30, -5), bar(40, 50, 70), bar(60, 70, -6), bar(80, 90, 70), bar(0, 90, 100)}, [][4]int64{{6, 11, -6, 106}, {2, 11, -5, 105}, {0, 11, 70, 30}, {4, 11, 70, 30}, {8, 11, 70, 30}}},
		{"far away", []string{"-262144,-262144 262144,-262144 262144,262144 -262144,262144"}, [][4]int64{{0, 2, -262144, 524288}}},
		{"edges that are too short", []string{"0,0 7,0 7,50 0,50"}, nil},
		{"one edge that is too short", []string{"0,0 8,0 7,50 0,50"}, nil},
		{"edges that are bent", []string{"0,0 60,0 60,700 ~30,700 0,700"}, nil},
		{"two edges on one line", []string{"0,0 30,0 60,0 60,700 0,700"}, [][4]int64{{0, 3, 0, 700}, {1, 3, 0, 700}}},
	} {
		o := outlineOf(c.lines...)
		got, code := impl.StemsOf(o, true)
		check(t, c.what, show(rowsOf(got), code), show(c.stems, impl.OK))
		turned, code := impl.StemsOf(clockwise(o), false)
		check(t, c.what+", turned", show(rowsOf(turned), code), show(c.stems, impl.OK))
		checkStems(t, o)
		checkStems(t, clockwise(o))
	}
	x, _ := impl.StemsOf(outlineOf("0,0 60,0 60,700 0,700"), false)
	check(t, "a box along x", show(rowsOf(x)), show([][4]int64{{3, 1, 0, 60}}))
	x, _ = impl.StemsOf(outlineOf("0,0 200,0 200,700 0,700", "60,60 60,640 140,640 140,60"), false)
	check(t, "a ring along x", show(rowsOf(x)), show([][4]int64{{3, 4, 0, 60}, {6, 1, 140, 60}}))
}

// ladder returns a loop with as many stems of a width along y and none along x, the first one at a height and each other one some units above it.
func ladder(count int, x, y, rise, width int64) string {
	var words []string
	for i := range int64(count) {
		low := y + i*rise
		for _, p := range []pt{at(x, low), at(x+50, low), at(x+55, low+width), at(x+5, low+width)} {
			words = append(words, impl.PtText(p))
		}
	}
	return strings.Join(words, " ")
}

// TestStemsLimit holds that only the first 24 stems are returned, by their coordinates.
func TestStemsLimit(t *testing.T) {
	for count := 21; count <= 30; count++ {
		// The later loops and the later edges are lower.
		o := outlineOf(ladder(10, 0, 900, -100, 30), ladder(10, 200, -100, -100, 40), ladder(count-20, 400, -5000, -100, 50))
		stems, code := impl.StemsOf(o, true)
		check(t, show("StemsOf", count), show(len(stems), code), show(min(count, 24), impl.OK))
		check(t, "all of the lowest ones", slices.IndexFunc(stems, func(s stem) bool { return s.Width != 50 }), count-20)
		check(t, "the lowest one first", stems[0].From, -5000-100*int64(count-21))
		check(t, "the highest one of those that fit", stems[len(stems)-1].From, 900-100*int64(max(count-24, 0)))
		checkStems(t, o)
		checkStems(t, clockwise(o))
		x, _ := impl.StemsOf(o, false)
		check(t, "none along x", len(x), 0)
	}
}

// blockLoop returns a loop of up to so many knots that mostly leads along x and y, between a few lines.
func blockLoop(random *rand.Rand, most int) loop {
	lines := []int64{0, 7, 8, 15, 16, 17, 60, 67, 100, 108, 200}[random.Intn(4):][:4+random.Intn(4)]
	shift := placeIn(random, 20)
	p := at(pick(random, lines), pick(random, lines))
	var l loop
	for i := range 1 + random.Intn(most) {
		switch random.Intn(9) {
		case 0:
			p = at(pick(random, lines), pick(random, lines))
		case 1, 2, 3, 4:
			p.X = pick(random, lines)
		default:
			p.Y = pick(random, lines)
		}
		l.Knots = append(l.Knots, impl.Knot{At: at(p.X+shift.X, p.Y+shift.Y), On: i == 0 || random.Intn(12) > 0})
	}
	return l
}

func blockOutline(random *rand.Rand) outline {
	var o outline
	most := pick(random, []int{4, 16, 16, 60})
	for range random.Intn(13) {
		o.Loops = append(o.Loops, blockLoop(random, most))
	}
	return o
}

func TestStemsExact(t *testing.T) {
	random := fixedRandom()
	some, many := 0, 0
	for range 2000 {
		o := blockOutline(random)
		checkStems(t, o)
		if stems, _ := impl.StemsOf(o, true); len(stems) == 24 {
			many++
		} else if len(stems) > 0 {
			some++
		}
		for _, turn := range []outline{o, clockwise(o), clockwise(clockwise(o))} {
			y, _ := impl.StemsOf(turn, true)
			x, _ := impl.StemsOf(clockwise(turn), false)
			check(t, "turned by a quarter", show(x), show(y))
		}
	}
	check(t, show("some and many stems", some, many), some > 500 && many > 50, true)
	for _, o := range manyOutlines(300) {
		checkStems(t, o)
	}
}

func TestStemsInvalid(t *testing.T) {
	for _, o := range badOutlines() {
		for _, axisY := range []bool{true, false} {
			begins, code := impl.EdgesAlong(o, axisY)
			check(t, "EdgesAlong", show(len(begins), code), show(0, impl.ErrInvalid))
			stems, code := impl.StemsOf(o, axisY)
			check(t, "StemsOf", show(len(stems), code), show(0, impl.ErrInvalid))
		}
		text, code := impl.StemHints(o)
		check(t, "StemHints", show(text, code), show("", impl.ErrInvalid))
	}
	for _, s := range badSets() {
		for _, axisY := range []bool{true, false} {
			widths, counts, code := impl.WidthsOf(s, axisY)
			check(t, "WidthsOf", show(len(widths), len(counts), code), show(0, 0, impl.ErrInvalid))
			width, code := impl.StandardWidth(s, axisY)
			check(t, "StandardWidth", show(width, code), show(0, impl.ErrInvalid))
		}
		zones, code := impl.ZonesOf(s)
		check(t, "ZonesOf", show(len(zones), code), show(0, impl.ErrInvalid))
		hinted, values, code := impl.AutoHint(s)
		check(t, "AutoHint", show(hinted, len(values), code), show(glyphSet{}, 0, impl.ErrInvalid))
	}
}

// stemsIn returns the wanted stems of all outlines of a set.
func stemsIn(s glyphSet, axisY bool) []stem {
	var list []stem
	for _, g := range s.Glyphs {
		list = append(list, wantedStems(g.Outline, axisY)...)
	}
	return list
}

func wantedWidths(s glyphSet, axisY bool) (widths, counts []int64) {
	found := map[int64]int64{}
	for _, stem := range stemsIn(s, axisY) {
		found[stem.Width]++
	}
	for _, w := range slices.Sorted(maps.Keys(found)) {
		widths, counts = append(widths, w), append(counts, found[w])
	}
	return widths, counts
}

func wantedStandard(s glyphSet, axisY bool) (int64, int64) {
	widths, counts := wantedWidths(s, axisY)
	if len(widths) == 0 {
		return 0, impl.ErrNotFound
	}
	return widths[slices.Index(counts, slices.Max(counts))], impl.OK
}

func wantedZones(s glyphSet) []int64 {
	found := map[int64]int{}
	for _, stem := range stemsIn(s, true) {
		found[stem.From]++
		found[stem.From+stem.Width]++
	}
	// Zones are taken away one by one, the best one first.
	var zones []int64
	for len(zones) < 8 && len(found) > 0 {
		best := slices.MinFunc(slices.Collect(maps.Keys(found)), func(a, b int64) int {
			return cmp.Or(cmp.Compare(found[b], found[a]), cmp.Compare(a, b))
		})
		zones = append(zones, best)
		delete(found, best)
	}
	slices.Sort(zones)
	return zones
}

// checkWidths holds WidthsOf, StandardWidth and ZonesOf for a valid set.
func checkWidths(t *testing.T, s glyphSet) {
	t.Helper()
	for _, axisY := range []bool{true, false} {
		widths, counts := wantedWidths(s, axisY)
		gotWidths, gotCounts, code := impl.WidthsOf(s, axisY)
		check(t, show("WidthsOf", s, axisY), show(gotWidths, gotCounts, code), show(widths, counts, impl.OK))
		width, due := wantedStandard(s, axisY)
		got, code := impl.StandardWidth(s, axisY)
		check(t, show("StandardWidth", s, axisY), show(got, code), show(width, due))
	}
	zones, code := impl.ZonesOf(s)
	check(t, show("ZonesOf", s), show(zones, code), show(wantedZones(s), impl.OK))
}

// slab returns a loop with one stem along y from one height to another one, and none along x.
func slab(from, to int64) string { return ladder(1, 0, from, 0, to-from) }

func TestWidths(t *testing.T) {
	for _, c := range []struct {
		what           string
		s              glyphSet
		widths, counts []int64
		standard, code int64
		zones          []int64
	}{
		{"no glyphs", setOf(), nil, nil, 0, impl.ErrNotFound, nil},
		{"no stems", setOf(leaf("a"), leaf("b", "0,0 60,60 0,60")), nil, nil, 0, impl.ErrNotFound, nil},
		{"one stem", setOf(leaf("a", slab(0, 60))), []int64{60}, []int64{1}, 60, impl.OK, []int64{0, 60}},
		{"the most frequent width", setOf(leaf("a", slab(0, 60)), leaf("b", slab(0, 50)), leaf("c", slab(5, 65))), []int64{50, 60}, []int64{1, 2}, 60, impl.OK, []int64{0, 5, 50, 60, 65}},
		{"the least one of several", setOf(leaf("a", slab(0, 60)), leaf("b", slab(0, 50)), leaf("c", slab(5, 65)), leaf("d", slab(5, 55)), leaf("e", slab(1, 41))), []int64{40, 50, 60}, []int64{1, 2, 2}, 50, impl.OK, []int64{0, 1, 5, 41, 50, 55, 60, 65}},
		{"outlines of parts count once", setOf(leaf("a", slab(0, 60)), leaf("b", slab(0, 50), "-90,500 -40,500 -35,550 -85,550"), compound("c", partAt(0, 0, 0), partAt(0, 0, 100), partAt(0, 300, 0))), []int64{50, 60}, []int64{2, 1}, 50, impl.OK, []int64{0, 50, 60, 500, 550}},
		// 0 and 100 are there twice; of the others the lesser ones are taken.
		{"the most frequent zones", setOf(leaf("a", slab(0, 100)), leaf("b", slab(0, 90)), leaf("c", slab(10, 100)), leaf("d", slab(20, 80)), leaf("e", slab(30, 70)), leaf("f", slab(40, 60))), []int64{20, 40, 60, 90, 100}, []int64{1, 1, 1, 2, 1}, 90, impl.OK, []int64{0, 10, 20, 30, 40, 60, 70, 100}},
		{"eight zones and one more", setOf(leaf("a", slab(-5, 1)), leaf("b", slab(2, 3)), leaf("c", slab(4, 5)), leaf("d", slab(6, 7)), leaf("e", slab(8, 9)), leaf("f", slab(9, 20))), []int64{1, 6, 11}, []int64{4, 1, 1}, 1, impl.OK, []int64{-5, 1, 2, 3, 4, 5, 6, 9}},
		// The widths that are left out are those of the highest stems.
		{"24 stems of an outline", setOf(leaf("a", ladder(15, 0, 0, 0, 30), ladder(11, 100, 1000, 0, 40))), []int64{30, 40}, []int64{15, 9}, 30, impl.OK, []int64{0, 30, 1000, 1040}},
		{"24 stems of each of two outlines", setOf(leaf("a", ladder(15, 0, 0, 0, 30), ladder(11, 100, 1000, 0, 40)), leaf("b", ladder(14, 100, 2000, 0, 40), ladder(12, 0, 1000, 0, 30))), []int64{30, 40}, []int64{27, 21}, 30, impl.OK, []int64{0, 30, 1000, 1030, 1040, 2000, 2040}},
		{"the greatest width", setOf(leaf("a", slab(-262144, 262144))), []int64{524288}, []int64{1}, 524288, impl.OK, []int64{-262144, 262144}},
	} {
		widths, counts, code := impl.WidthsOf(c.s, true)
		check(t, c.what, show(widths, counts, code), show(c.widths, c.counts, impl.OK))
		width, code := impl.StandardWidth(c.s, true)
		check(t, c.what, show(width, code), show(c.standard, c.code))
		zones, code := impl.ZonesOf(c.s)
		check(t, c.what, show(zones, code), show(c.zones, impl.OK))
		checkWidths(t, c.s)
		turned := copyOfSet(c.s)
		for i, g := range turned.Glyphs {
			turned.Glyphs[i].Outline = clockwise(g.Outline)
		}
		widths, counts, code = impl.WidthsOf(turned, false)
		check(t, c.what+", turned", show(widths, counts, code), show(c.widths, c.counts, impl.OK))
		width, code = impl.StandardWidth(turned, false)
		check(t, c.what+", turned", show(width, code), show(c.standard, c.code))
		zones, code = impl.ZonesOf(turned)
		check(t, c.what+", turned", show(len(zones), code), show(0, impl.OK))
	}
}

// blockSet returns a valid set of glyphs with many stems.
func blockSet(random *rand.Rand) glyphSet {
	s := randomSet(random)
	for i, g := range s.Glyphs {
		if len(g.Parts) == 0 {
			loops := blockOutline(random).Loops
			// Many knots in front make words of pushes.
			if random.Intn(4) == 0 {
				loops = slices.Concat([]loop{loopOf(repeated("0,0", "1,1", 60)), loopOf(repeated("0,0", "1,1", 30+random.Intn(31)))}, loops[:min(len(loops), 10)])
			}
			s.Glyphs[i].Outline.Loops = loops
		}
	}
	return s
}

func TestWidthsExact(t *testing.T) {
	random := fixedRandom()
	for range 600 {
		s := blockSet(random)
		check(t, "ValidGlyphSet", impl.ValidGlyphSet(s), true)
		checkWidths(t, s)
	}
	for _, s := range manySets(100) {
		checkWidths(t, s)
	}
}

// wantedAxis tells what the document says of the lines for an axis, and how many bytes their program has.
func wantedAxis(o outline, axisY bool, axis string, value int64) (string, int) {
	text, size, treated := "", 0, map[int64]bool{}
	put := func(word string) { text, size = text+word+"\n", size+1 }
	push := func(n int64) {
		if n > 127 {
			put(fmt.Sprint("word ", n))
			size += 2
		} else {
			put(fmt.Sprint("push ", n))
			size++
		}
	}
	for _, p := range wantedPairs(o, axisY) {
		if treated[p[0].first] || treated[p[1].first] {
			continue
		}
		treated[p[0].first], treated[p[1].first] = true, true
		push(p[0].first)
		put("grid")
		push(p[1].first)
		push(value)
		put("stem")
		sides := p[:]
		slices.SortFunc(sides, func(a, b straight) int { return cmp.Compare(a.first, b.first) })
		for _, e := range sides {
			push(e.next)
			push(e.first)
			put("get")
			put("put")
		}
	}
	if len(treated) == 0 {
		return "", 0
	}
	return axis + "\n" + text + "smooth\n", size + 2
}

func wantedStemHints(o outline) (string, int64) {
	y, sizeY := wantedAxis(o, true, "axisy", 0)
	x, sizeX := wantedAxis(o, false, "axisx", 1)
	if sizeY+sizeX > 400 {
		return "", impl.ErrFull
	}
	return y + x, impl.OK
}

// checkStemHints holds StemHints for a valid outline, and that its text is that of a program.
func checkStemHints(t *testing.T, o outline) (string, int64) {
	t.Helper()
	want, due := wantedStemHints(o)
	text, code := impl.StemHints(o)
	if text != want || code != due {
		t.Errorf("StemHints(%+v): got %q and %s, want %q and %s", o, text, impl.CodeName(code), want, impl.CodeName(due))
	}
	program, assembled := impl.AssembleHints(text)
	check(t, "AssembleHints", assembled, impl.OK)
	again, _ := impl.HintsText(program)
	check(t, "the text of the program", again, text)
	return program, code
}

func TestStemHints(t *testing.T) {
	filler := repeated("0,0", "1,1", 60)
	for _, c := range []struct {
		what  string
		lines []string
		text  string
	}{
		{"nothing", nil, ""}, {"no stems", []string{"0,0 7,0 7,7"}, ""}, {"a box in the other direction", []string{"0,0 0,700 60,700 60,0"}, ""},
		{"a box", []string{"0,0 60,0 60,700 0,700"}, "axisy, push 0, grid, push 2, push 0, stem, push 1, push 0, get, put, push 3, push 2, get, put, smooth, axisx, push 3, grid, push 1, push 1, stem, push 2, push 1, get, put, push 0, push 3, get, put, smooth"},
		{"one axis", []string{slab(0, 60)}, "axisy, push 0, grid, push 2, push 0, stem, push 1, push 0, get, put, push 3, push 2, get, put, smooth"},
		{"the other axis", []string{"0,0 60,9 60,60 0,70"}, "axisx, push 3, grid, push 1, push 1, stem, push 2, push 1, get, put, push 0, push 3, get, put, smooth"},
		{"an edge to the first knot", []string{"60,700 0,701 0,0 60,0"}, "axisx, push 1, grid, push 3, push 1, stem, push 2, push 1, get, put, push 0, push 3, get, put, smooth"},
		{"the high edge first", []string{bar(0, 50, 100), bar(0, 50, 0)}, "axisy, push 2, grid, push 1, push 0, stem, push 0, push 1, get, put, push 3, push 2, get, put, smooth"},
		{"a high edge that has been treated", []string{bar(0, 20, 0), bar(30, 50, 10), bar(0, 50, 100)}, "axisy, push 0, grid, push 5, push 0, stem, push 1, push 0, get, put, push 4, push 5, get, put, smooth"},
		{"a stem behind one that is left out", []string{bar(0, 20, 0), bar(30, 50, 10), bar(0, 50, 100), bar(0, 50, 200)}, "axisy, push 0, grid, push 5, push 0, stem, push 1, push 0, get, put, push 4, push 5, get, put, push 4, grid, push 7, push 0, stem, push 5, push 4, get, put, push 6, push 7, get, put, smooth"},
		{"127 and 128", []string{filler, filler, repeated("0,0", "1,1", 5), slab(0, 60)}, "axisy, push 125, grid, push 127, push 0, stem, push 126, push 125, get, put, word 128, push 127, get, put, smooth"},
		{"greater numbers", []string{filler, filler, repeated("0,0", "1,1", 8), "0,0 60,0 60,700 0,700"}, "axisy, word 128, grid, word 130, push 0, stem, word 129, word 128, get, put, word 131, word 130, get, put, smooth, axisx, word 131, grid, word 129, push 1, stem, word 130, word 129, get, put, word 128, word 131, get, put, smooth"},
		{"the greatest numbers", append(slices.Repeat([]string{filler}, 11), repeated("0,0", "1,1", 56)+" "+slab(0, 60)), "axisy, word 716, grid, word 718, push 0, stem, word 717, word 716, get, put, word 719, word 718, get, put, smooth"},
	} {
		o := outlineOf(c.lines...)
		text, code := impl.StemHints(o)
		check(t, c.what, show(text, code), show(wantedLines(hints(c.text)), impl.OK))
		checkStemHints(t, o)
	}
}

// TestStemHintsFull holds that a program may have 400 bytes, and no more.
func TestStemHintsFull(t *testing.T) {
	sizes := map[int]int64{}
	for extra := 1; extra <= 60; extra++ {
		// Both ladders make 19 stems along y, the last ones with words in place of pushes.
		o := outlineOf(repeated("0,0", "1,1", 60), repeated("0,0", "1,1", extra), ladder(15, 0, 0, 100, 50), ladder(4, 200, 5000, 100, 50))
		for _, turned := range []outline{o, clockwise(o)} {
			program, code := checkStemHints(t, turned)
			if code == impl.OK {
				sizes[len(program)]++
			} else {
				sizes[401]++
			}
		}
	}
	check(t, show("all sizes", sizes), sizes[398] > 0 && sizes[400] > 0 && sizes[401] > 50, true)
	o := outlineOf(repeated("0,0", "1,1", 60), "0,0 1,1 2,2 3,3", ladder(15, 0, 0, 100, 50), ladder(4, 200, 5000, 100, 50))
	program, code := impl.StemHints(o)
	bytes, _ := impl.AssembleHints(program)
	check(t, "400 bytes", show(len(bytes), code), show(400, impl.OK))
	o.Loops[1] = loopOf("0,0 1,1 2,2 3,3 4,4")
	program, code = impl.StemHints(o)
	check(t, "401 bytes", show(program, code), show("", impl.ErrFull))
	// Here each axis has room for itself.
	for boxes, code := range map[int]int64{9: impl.OK, 10: impl.ErrFull, 12: impl.ErrFull} {
		var lines []string
		for i := range int64(boxes) {
			lines = append(lines, fmt.Sprintf("%d,0 %d,0 %d,700 %d,700", 100*i, 100*i+60, 100*i+60, 100*i))
		}
		_, got := checkStemHints(t, outlineOf(lines...))
		check(t, show("boxes", boxes), got, code)
	}
}

func TestStemHintsExact(t *testing.T) {
	random := fixedRandom()
	codes, texts := map[int64]int{}, 0
	for range 4000 {
		program, code := checkStemHints(t, blockOutline(random))
		codes[code]++
		if program != "" {
			texts++
		}
	}
	for _, o := range manyOutlines(200) {
		checkStemHints(t, o)
	}
	check(t, show("both codes, and programs", codes, texts), codes[impl.OK] > 1000 && texts > 1000 && codes[impl.ErrFull] > 10, true)
}

// wantedAuto tells what the document says of AutoHint for a valid set.
func wantedAuto(s glyphSet) (glyphSet, []int64, int64) {
	made := copyOfSet(s)
	for i, g := range s.Glyphs {
		text, code := wantedStemHints(g.Outline)
		if code != impl.OK {
			return glyphSet{}, nil, code
		}
		made.Glyphs[i].Hints, _ = wantedAssembled(text)
	}
	y, _ := wantedStandard(s, true)
	x, _ := wantedStandard(s, false)
	return made, []int64{y, x}, impl.OK
}

func checkAutoHint(t *testing.T, s glyphSet) (glyphSet, []int64, int64) {
	t.Helper()
	want, due, wantedCode := wantedAuto(s)
	got, values, code := impl.AutoHint(s)
	if show(got) != show(want) || show(values) != show(due) || code != wantedCode {
		t.Errorf("AutoHint(%+v): got %+v, %v and %s, want %+v, %v and %s", s, got, values, impl.CodeName(code), want, due, impl.CodeName(wantedCode))
	}
	return got, values, code
}

func TestAutoHint(t *testing.T) {
	ring := leaf("o", "0,0 200,0 200,700 0,700", "60,60 60,640 140,640 140,60")
	box := leaf("l", "0,0 50,0 50,700 0,700")
	old, pair := leaf("old", "0,0 7,7"), compound("pair", partAt(0, 5, 6), partAt(1, 250, 0))
	// Hints that were there are replaced, whatever they are, also those of glyphs without stems.
	ring.Hints, old.Hints, pair.Hints, pair.Advance = "\xff", "\x00", "\x27", 700
	s := setOf(ring, withAnchors(box, anchorAt("top", 25, 700)), old, pair)
	hinted, values, code := checkAutoHint(t, s)
	check(t, "values", show(values, code), show([]int64{60, 60}, impl.OK))
	check(t, "no stems", hinted.Glyphs[2].Hints, "")
	check(t, "parts", hinted.Glyphs[3].Hints, "")
	box.Hints = programWith(t, hints("axisy, push 0, grid, push 2, push 0, stem, push 1, push 0, get, put, push 3, push 2, get, put, smooth, axisx, push 3, grid, push 1, push 1, stem, push 2, push 1, get, put, push 0, push 3, get, put, smooth"))
	check(t, "the program of a box", show(hinted.Glyphs[1]), show(withAnchors(box, anchorAt("top", 25, 700))))
	for _, c := range []struct {
		what   string
		s      glyphSet
		values []int64
	}{
		{"no glyphs", setOf(), []int64{0, 0}}, {"no stems", setOf(leaf("a"), leaf("b", "0,0")), []int64{0, 0}},
		{"stems along y", setOf(leaf("a", slab(0, 60))), []int64{60, 0}}, {"stems along x", setOf(leaf("a", "0,0 60,9 60,60 0,70")), []int64{0, 60}},
		{"both", setOf(leaf("a", "0,0 60,0 60,700 0,700")), []int64{700, 60}}, {"a width that no value may have", setOf(leaf("a", slab(-262144, 262144))), []int64{524288, 0}},
	} {
		_, values, code := checkAutoHint(t, c.s)
		check(t, c.what, show(values, code), show(c.values, impl.OK))
	}
	full := leaf("full", slices.Repeat([]string{ladder(2, 0, 0, 100, 50)}, 12)...)
	for i := range full.Outline.Loops {
		full.Outline.Loops[i] = loopOf(ladder(2, int64(100*i), int64(1000*i), 100, 50))
	}
	for _, glyphs := range [][]glyph{{full}, {box, full}, {full, box}, {box, full, pair}, {leaf("a"), leaf("b"), full}} {
		_, _, code := checkAutoHint(t, setOf(glyphs...))
		check(t, show("a program that is too long", len(glyphs)), code, impl.ErrFull)
	}
}

// hintedAlike tells whether a hinted outline has the loops and knots of an outline, each of them on or off as before.
func hintedAlike(a, b outline) bool {
	same := func(k, m impl.Knot) bool { return k.On == m.On }
	return slices.EqualFunc(a.Loops, b.Loops, func(l, m loop) bool { return slices.EqualFunc(l.Knots, m.Knots, same) })
}

// checkKept is promise 22: hints are valid programs that run at any size, and outlines and advances are kept, in the set and with its hints.
func checkKept(t *testing.T, s, hinted glyphSet, values []int64, size int64) {
	t.Helper()
	check(t, "a valid set", impl.ValidGlyphSet(hinted), true)
	for i, g := range hinted.Glyphs {
		check(t, "a valid program", impl.ValidHints(g.Hints), true)
		before := copyOfGlyph(s.Glyphs[i])
		before.Hints = g.Hints
		check(t, "all but the hints is kept", impl.SameGlyph(g, before), true)
		if len(g.Parts) > 0 {
			continue
		}
		h, code := impl.StartHinter(g.Outline, g.Advance, values, size, s.Unit)
		if code == impl.ErrFull {
			continue
		}
		check(t, "StartHinter", code, impl.OK)
		end, steps, code := impl.RunHinter(h, g.Hints)
		check(t, show("RunHinter", g, size), show(code, steps <= 400, len(end.Stack)), show(impl.OK, true, 0))
		check(t, "points behind the loops stay", show(end.Now[len(h.Now)-2:]), show(h.Now[len(h.Now)-2:]))
		o, advance, code := impl.HintedOutline(end, g.Outline)
		width, _ := impl.ScaleTo(g.Advance, size, s.Unit)
		check(t, "HintedOutline", show(advance, code, hintedAlike(o, g.Outline)), show(width, impl.OK, true))
		checkPlaced(t, g.Outline, end)
	}
}

// checkPlaced holds that a stem that is the only one along its axis is on the grid, is as wide as some pixels, and has straight edges.
func checkPlaced(t *testing.T, o outline, end hinter) {
	t.Helper()
	for _, axisY := range []bool{true, false} {
		pairs := wantedPairs(o, axisY)
		along := func(p int64) int64 {
			if axisY {
				return end.Now[p].Y
			}
			return end.Now[p].X
		}
		// Where there are others, these may move its edges as well.
		if len(pairs) == 1 {
			low, high := pairs[0][0], pairs[0][1]
			check(t, "on the grid", along(low.first)%64, 0)
			check(t, "a whole width of a pixel or more", (along(high.first)-along(low.first))%64 == 0 && along(high.first)-along(low.first) >= 64, true)
			check(t, "straight", along(low.first) == along(low.next) && along(high.first) == along(high.next), true)
		}
	}
}

func TestAutoHintKeeps(t *testing.T) {
	t.Parallel()
	random := fixedRandom()
	codes, programs := map[int64]int{}, 0
	for range 800 {
		s := blockSet(random)
		hinted, values, code := checkAutoHint(t, s)
		codes[code]++
		if code != impl.OK {
			continue
		}
		again, same, code := impl.AutoHint(hinted)
		check(t, "hinted again", show(again, same, code), show(hinted, values, impl.OK))
		s.Unit, hinted.Unit = 1000, 1000
		checkKept(t, s, hinted, values, 1+random.Int63n(128))
		for _, g := range hinted.Glyphs {
			programs += len(g.Hints)
		}
	}
	check(t, show("both codes, and programs", codes, programs), codes[impl.OK] > 200 && codes[impl.ErrFull] > 5 && programs > 10000, true)
	for _, s := range manySets(50) {
		checkAutoHint(t, s)
	}
}

// TestAutoHintGlyphs holds hinted glyphs, also those with parts, for known values and against an own reading.
func TestAutoHintGlyphs(t *testing.T) {
	ring := leaf("o", "0,0 200,0 200,700 0,700", "60,60 60,640 140,640 140,60")
	ring.Advance = 250
	pair := compound("pair", partAt(0, 0, 0), partAt(0, 250, 3))
	pair.Advance = 500
	hinted, values, _ := impl.AutoHint(setOf(ring, pair))
	for _, c := range []struct {
		index, size int64
		text        string
		advance     int64
	}{
		{0, 10, "0,0 128,0 128,448 0,448\n64,64 64,384 64,384 64,64\n", 160}, {1, 10, "0,0 128,0 128,448 0,448\n64,64 64,384 64,384 64,64\n192,0 320,0 320,448 192,448\n256,64 256,384 256,384 256,64\n", 320},
		{0, 40, "0,0 512,0 512,1792 0,1792\n128,128 128,1664 384,1664 384,128\n", 640},
	} {
		o, advance, code := impl.HintGlyph(hinted, values, c.index, c.size)
		check(t, show("HintGlyph", c.index, c.size), show(impl.OutlineText(o), advance, code), show(c.text, c.advance, impl.OK))
		checkGlyph(t, hinted, values, c.index, c.size)
	}
	random := fixedRandom()
	for range 100 {
		s := blockSet(random)
		s.Unit = 1000
		hinted, values, code := impl.AutoHint(s)
		if code != impl.OK {
			continue
		}
		for i, ways := range waysOf(s) {
			if ways < 50 {
				checkGlyph(t, hinted, values, int64(i), 1+random.Int63n(64))
			}
		}
	}
}

type autoResults struct {
	lists  [6][]int64
	stems  []stem
	width  int64
	text   string
	hinted glyphSet
	codes  [7]int64
}

func autoResultsOf(o outline, s glyphSet, axisY bool) autoResults {
	var r autoResults
	r.lists[0], r.codes[0] = impl.EdgesAlong(o, axisY)
	r.stems, r.codes[1] = impl.StemsOf(o, axisY)
	r.lists[1], r.lists[2], r.codes[2] = impl.WidthsOf(s, axisY)
	r.width, r.codes[3] = impl.StandardWidth(s, axisY)
	r.lists[3], r.codes[4] = impl.ZonesOf(s)
	r.text, r.codes[5] = impl.StemHints(o)
	r.hinted, r.lists[4], r.codes[6] = impl.AutoHint(s)
	return r
}

// checkZero holds everything that comes with an error to be 0.
func (r autoResults) checkZero(t *testing.T) {
	t.Helper()
	isZero := []bool{len(r.lists[0]) == 0, len(r.stems) == 0, len(r.lists[1])+len(r.lists[2]) == 0, r.width == 0, len(r.lists[3]) == 0, r.text == "", show(r.hinted) == show(glyphSet{}) && len(r.lists[4]) == 0}
	for i, code := range r.codes {
		check(t, show("zero with an error", i, r), code == impl.OK || isZero[i], true)
	}
}

// overwriteResults writes into the memory of all results, which must not be shared.
func (r autoResults) overwriteResults(t *testing.T) {
	t.Helper()
	for i, list := range r.lists {
		later := show(r.lists[i+1:], r.stems, r.hinted)
		overwrite(list, 55)
		check(t, "later results", show(r.lists[i+1:], r.stems, r.hinted), later)
	}
	overwrite(r.stems, stem{Low: 55})
	overwriteGlyphs(t, r.hinted.Glyphs...)
	overwrite(r.hinted.Glyphs, glyph{Name: "scribble"})
}

// TestAutoHintTotal is promise 1 for chapter 21: all functions return for all arguments, twice alike, in new memory, and keep their arguments.
func TestAutoHintTotal(t *testing.T) {
	t.Parallel()
	random, goods := fixedRandom(), map[int]int{}
	for range 300 {
		o, s, axisY := blockOutline(random), blockSet(random), random.Intn(2) == 0
		switch random.Intn(6) {
		case 0:
			o, s = pick(random, badOutlines()), pick(random, badSets())
		case 1:
			o, s = pick(random, goodOutlines()), pick(random, goodSets())
		}
		o, s = roomyOutline(o), roomySet(s)
		memory := func() string { return show(outlineMemory(o), s.Unit, glyphMemory(s.Glyphs[:cap(s.Glyphs)]...)) }
		before := memory()
		first := autoResultsOf(o, s, axisY)
		first.checkZero(t)
		for k, code := range first.codes {
			if code == impl.OK {
				goods[k]++
			}
		}
		shown := show(first)
		check(t, "arguments after all calls", memory(), before)
		first.overwriteResults(t)
		check(t, "arguments after results are overwritten", memory(), before)
		if shown != show(autoResultsOf(o, s, axisY)) {
			t.Fatal("equal arguments have different results: ", o, s, axisY)
		}
	}
	for i := range 7 {
		if goods[i] < 100 {
			t.Errorf("too few results without an error: %v", goods)
		}
	}
}
