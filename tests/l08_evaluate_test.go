package tests

import (
	"fmt"
	"math/rand"
	"slices"
	"strings"
	"testing"

	"loop.example/g00883/impl"
)

type (
	scene     = impl.Scene
	namedPen  = impl.NamedPen
	namedPath = impl.NamedPath
)

func TestSceneConstants(t *testing.T) {
	check(t, "constants", show(impl.MaxPens, impl.MaxPaths), show(12, 24))
}

// sceneIsValid tells what the document says.
func sceneIsValid(s scene) bool {
	var pens, paths []string
	ok := impl.ValidSystem(s.System) && setIsValid(s.Set) && regionIsValid(s.Shape) && len(s.Pens) <= 12 && len(s.Paths) <= 24
	for _, p := range s.Pens {
		pens = append(pens, p.Name)
		ok = ok && impl.IsPen(p.Pen)
	}
	for _, p := range s.Paths {
		paths = append(paths, p.Name)
		ok = ok && ringIsValid(ringOf(p.Points...))
	}
	if s.Open {
		return ok && areNames(pens) && areNames(paths) && glyphIsValid(s.Now) && len(s.Now.Outline.Loops) == 0
	}
	return ok && areNames(pens) && areNames(paths) && show(s.Now, s.Shape) == show(glyph{}, region{})
}

func copyOfScene(s scene) scene {
	var rows []impl.Row
	for _, row := range s.System.Rows {
		rows = append(rows, impl.Row{Name: row.Name, Value: linear{Const: row.Value.Const, Terms: slices.Clone(row.Value.Terms)}})
	}
	s.System.Rows, s.Pens, s.Paths = rows, slices.Clone(s.Pens), slices.Clone(s.Paths)
	for i := range s.Pens {
		s.Pens[i].Pen = slices.Clone(s.Pens[i].Pen)
	}
	for i := range s.Paths {
		s.Paths[i].Points = slices.Clone(s.Paths[i].Points)
	}
	s.Set, s.Now, s.Shape = copyOfSet(s.Set), copyOfGlyph(s.Now), copyOfRegion(s.Shape)
	return s
}

func pensOf(count int) []namedPen {
	var list []namedPen
	for _, name := range numbered("n", count) {
		list = append(list, namedPen{Name: name, Pen: points("-1,-1 2,-1 2,1 -1,1")})
	}
	return list
}

func pathsOf(count int, closed bool) []namedPath {
	var list []namedPath
	for _, name := range numbered("o", count) {
		list = append(list, namedPath{Name: name, Points: points("0,0 9,0 9,9"), Closed: closed})
	}
	return list
}

// goodScenes returns valid states: empty ones, those at the limits, and others.
func goodScenes() []scene {
	six := glyph{Name: "six", Code: 5, Parts: slices.Repeat([]part{partAt(39, 1, 1)}, 6), Hints: "x"}
	for _, name := range numbered("a", 6) {
		six.Anchors = append(six.Anchors, anchorAt(name, 0, 0))
	}
	list := []scene{{Set: glyphSet{Unit: 16}}, {Set: glyphSet{Unit: 16384}, Pens: []namedPen{}, Paths: []namedPath{}}, {Set: setOf(), Open: true, Now: leaf("a")}, {Set: setOf(leaf("a", "0,0 1,1")), Open: true, Now: leaf("a"), Shape: regionOf("0,0 4,4")},
		{System: manyRows(impl.MaxUnknowns), Set: setOf(letters(40)...), Pens: pensOf(12), Paths: pathsOf(24, true), Open: true, Now: six, Shape: goodRegions()[13]},
		{System: rows("a = 1*b", "p.x = 5", "p.y = 6"), Set: setOf(tower(leaf("a", "0,0"), 5, 6, 0, 1)...), Pens: []namedPen{{Name: "end", Pen: parabolaPts(16)}, {Name: "o", Pen: points("5,5")}}, Paths: []namedPath{{Name: "o", Points: points("5,5")}, {Name: "p", Points: ringPts()[:400]}, {Name: "q", Points: points("1,1 1,1"), Closed: true}}}}
	for _, r := range goodRegions() {
		list = append(list, scene{Set: setOf(), Open: true, Now: glyph{Name: "now", Advance: 5}, Shape: r})
	}
	for _, s := range goodSystems() {
		list = append(list, scene{Set: setOf(leaf("b")), System: s, Paths: pathsOf(2, false)})
	}
	return list
}

// sceneChanges returns copies of a state with one field changed.
func sceneChanges(s scene) []scene {
	var list []scene
	change := func(do func(c *scene)) {
		c := copyOfScene(s)
		do(&c)
		list = append(list, c)
	}
	for _, name := range []string{"", "B", "o", "n10", "o10", "a b", "abcdefghijkl", "abcdefghijklm"} {
		change(func(c *scene) { c.Pens = append(c.Pens, namedPen{Name: name, Pen: points("0,0")}) })
		change(func(c *scene) { c.Paths = append(c.Paths, namedPath{Name: name, Points: points("0,0")}) })
		change(func(c *scene) { c.Pens = slices.Insert(c.Pens, 0, namedPen{Name: name, Pen: points("0,0")}) })
		change(func(c *scene) { c.Now.Name = name })
		change(func(c *scene) { c.Open, c.Now = true, leaf(name) })
	}
	for _, pen := range badPens() {
		change(func(c *scene) { c.Pens = []namedPen{{Name: "n", Pen: points("0,0")}, {Name: "m", Pen: pen}} })
	}
	for _, path := range badPaths() {
		change(func(c *scene) {
			c.Paths = []namedPath{{Name: "n", Points: path}, {Name: "m", Points: points("0,0")}}
		})
	}
	for _, count := range []int{11, 12, 13, 24, 25, 100} {
		change(func(c *scene) { c.Pens = pensOf(count) })
		change(func(c *scene) { c.Paths = pathsOf(count, count%2 == 0) })
	}
	change(func(c *scene) { c.Open = !c.Open })
	change(func(c *scene) { c.Open, c.Now, c.Shape = false, glyph{}, region{} })
	change(func(c *scene) {
		c.Open, c.Now, c.Shape = false, glyph{Parts: []part{}, Anchors: []anchor{}}, region{Rings: []ring{}}
	})
	change(func(c *scene) { c.Now.Outline = outlineOf("0,0 1,1") })
	change(func(c *scene) { c.Now = glyph{} })
	change(func(c *scene) { c.Now.Code = -2 })
	change(func(c *scene) { c.Now.Code++ })
	change(func(c *scene) { c.Now.Hints += "h" })
	change(func(c *scene) { c.Now.Parts = append(c.Now.Parts, partAt(40, 0, 0)) })
	change(func(c *scene) { c.Now.Parts = []part{partAt(39, 0, 0)} })
	change(func(c *scene) { c.Shape.Rings = append(c.Shape.Rings, ringOf(at(0, 0), at(4, 4))) })
	change(func(c *scene) { c.Shape.Rings = append(c.Shape.Rings, ringOf()) })
	change(func(c *scene) { c.Set.Unit++ })
	change(func(c *scene) { c.Set.Unit = 15 })
	change(func(c *scene) { c.Set.Glyphs = append(c.Set.Glyphs, leaf("zz")) })
	change(func(c *scene) { c.Set.Glyphs = append(c.Set.Glyphs, leaf("zz"), leaf("zz")) })
	change(func(c *scene) { c.System.Rows = append(c.System.Rows, rows("zz = 1").Rows...) })
	change(func(c *scene) { c.System.Rows = append(c.System.Rows, rows("zz = 1*zz").Rows...) })
	if len(s.Paths) > 0 && len(s.Pens) > 0 {
		change(func(c *scene) { c.Paths[0].Closed = !c.Paths[0].Closed })
		change(func(c *scene) { c.Paths[0].Points[0].X++ })
		change(func(c *scene) { c.Paths[0].Name = "other" })
		change(func(c *scene) { c.Pens[0].Name = "other" })
		change(func(c *scene) { c.Pens[0].Pen = points("7,7") })
	}
	return list
}

// badScenes returns states that are not valid, for each reason.
func badScenes() []scene {
	list := []scene{{}, {Set: glyphSet{Unit: 15}}, {Set: setOf(), Now: leaf("a")}, {Set: setOf(), Open: true}, {Set: setOf(), Shape: regionOf("0,0")}, {Set: setOf(), Open: true, Now: leaf("a", "0,0")}, {Set: setOf(), Now: glyph{Code: -1}}, {Set: setOf(), Now: glyph{Hints: "x"}}}
	for _, s := range badSystems() {
		list = append(list, scene{Set: setOf(), System: s})
	}
	for _, s := range badSets()[:24] {
		list = append(list, scene{Set: s}, scene{Set: s, Open: true, Now: leaf("a")})
	}
	for _, r := range badRegions() {
		list = append(list, scene{Set: setOf(), Shape: r}, scene{Set: setOf(), Open: true, Now: leaf("a"), Shape: r})
	}
	for _, g := range badGlyphs() {
		list = append(list, scene{Set: setOf(), Open: true, Now: g})
	}
	for _, c := range sceneChanges(goodScenes()[5]) {
		if !sceneIsValid(c) {
			list = append(list, c)
		}
	}
	return list
}

func TestNewScene(t *testing.T) {
	for _, unit := range append(extremeNumbers(), 15, 16, 17, 1000, 2048, 16383, 16384, 16385, -16, -1000) {
		s, code := impl.NewScene(unit)
		want, due := scene{}, int64(impl.ErrRange)
		if unit >= 16 && unit <= 16384 {
			want, due = scene{Set: glyphSet{Unit: unit}}, impl.OK
		}
		check(t, show("NewScene", unit), show(s, code, impl.ValidScene(s)), show(want, due, due == impl.OK))
	}
}

func TestValidScene(t *testing.T) {
	found := map[bool]int{}
	for _, s := range goodScenes() {
		check(t, show("ValidScene", s), impl.ValidScene(s), true)
		check(t, show("wanted", s), sceneIsValid(s), true)
		for _, c := range sceneChanges(s) {
			if impl.ValidScene(c) != sceneIsValid(c) {
				t.Errorf("ValidScene(%+v): got %v, want %v", c, impl.ValidScene(c), sceneIsValid(c))
			}
			found[sceneIsValid(c)]++
		}
	}
	for _, s := range badScenes() {
		if impl.ValidScene(s) || sceneIsValid(s) || impl.SceneText(s) != "" {
			t.Errorf("a state that is not valid: %+v", s)
		}
	}
	if found[true] < 100 || found[false] < 100 {
		t.Errorf("too few states are valid, or are not: %v", found)
	}
}

func TestSameScene(t *testing.T) {
	list := append(goodScenes()[:6], badScenes()[:8]...)
	for _, a := range list {
		for _, b := range append(sceneChanges(a), list...) {
			want := show(a) == show(b)
			check(t, "SameScene", show(impl.SameScene(a, copyOfScene(b)), impl.SameScene(b, a)), show(want, want))
		}
	}
}

// wantedPoint is what PointOf has to return.
func wantedPoint(s system, name string) (pt, int64) {
	var place [2]int64
	for i, letter := range []string{"x", "y"} {
		f, code := impl.ValueOf(s, name+"."+letter)
		if code != impl.OK {
			return pt{}, code
		}
		place[i] = roundOf(rat(f))
	}
	if p := at(place[0], place[1]); isPlace(p) {
		return p, impl.OK
	}
	return pt{}, impl.ErrRange
}

func TestPointOf(t *testing.T) {
	s := rows("a.x = 5/2", "a.y = -5/2", "abcdefghij.x = 7", "abcdefghij.y = 8", "b.x = 3", "b.y = 1*f + 1", "c.x = 262144", "c.y = -262144", "d.x = 524289/2", "d.y = 0", "e.x = 524287/2", "e.y = -524289/2", "g.x = 0", "g.y = 262145", "h.x = 1*f", "h.y = 1*f", "i.y = 1", "j.x = 1", "k.x = 1*f", "l.x.x = 1", "l.x.y = 2", "m.x = 7/3", "m.y = -524291/2")
	cases := map[string]string{
		"a": "[{X:3 Y:-2} 0]", "abcdefghij": "[{X:7 Y:8} 0]", "b": "[{X:0 Y:0} 6]", "c": "[{X:262144 Y:-262144} 0]", "d": "[{X:0 Y:0} 2]", "e": "[{X:262144 Y:-262144} 0]", "g": "[{X:0 Y:0} 2]", "h": "[{X:0 Y:0} 6]", "i": "[{X:0 Y:0} 3]", "j": "[{X:0 Y:0} 3]", "k": "[{X:0 Y:0} 6]", "m": "[{X:0 Y:0} 2]",
		"l.x": "[{X:1 Y:2} 0]", "l": "[{X:0 Y:0} 3]", "z": "[{X:0 Y:0} 3]", "abcdefghijk": "[{X:0 Y:0} 1]", "": "[{X:0 Y:0} 1]", "A": "[{X:0 Y:0} 1]", "a ": "[{X:0 Y:0} 1]", "1": "[{X:0 Y:0} 1]", ".": "[{X:0 Y:0} 1]", "pen": "[{X:0 Y:0} 3]", "a.": "[{X:0 Y:0} 3]",
	}
	for name, want := range cases {
		p, code := impl.PointOf(s, name)
		check(t, "PointOf "+name, show(p, code), want)
		p, code = wantedPoint(s, name)
		check(t, "wanted "+name, show(p, code), want)
	}
	for _, bad := range badSystems() {
		p, code := impl.PointOf(bad, "a")
		check(t, show("PointOf", bad), show(p, code), show(pt{}, impl.ErrInvalid))
	}
	random, codes := fixedRandom(), map[int64]int{}
	for range 3000 {
		number := func() frac {
			f, code := impl.MakeFrac(random.Int63n(1<<random.Intn(22))-random.Int63n(1<<random.Intn(22)), 1+random.Int63n(6))
			check(t, "code of a fraction", code, impl.OK)
			return f
		}
		s := system{Rows: []impl.Row{{Name: "p.x", Value: linear{Const: number()}}, {Name: "p.y", Value: linear{Const: number()}}}}
		p, code := impl.PointOf(s, "p")
		want, due := wantedPoint(s, "p")
		check(t, show("PointOf", s), show(p, code), show(want, due))
		codes[code]++
	}
	if codes[impl.OK] < 1000 || codes[impl.ErrRange] < 100 {
		t.Errorf("the random points are too much alike: %v", codes)
	}
}

// wantedTrace is what TracePoints has to return.
func wantedTrace(list []pt, curved, isClosed bool, tolerance int64) ([]pt, int64) {
	c := curve{Knots: list, Closed: isClosed, Tension: 3}
	if len(list) < 2 || len(list) > 10 || slices.ContainsFunc(list, func(p pt) bool { return !isPlace(p) }) || curved && !curveIsValid(c) {
		return nil, impl.ErrInvalid
	}
	if tolerance < 1 || tolerance > 262144 {
		return nil, impl.ErrRange
	}
	if !curved {
		return list, impl.OK
	}
	cubics, code := impl.CurveCubics(c)
	var all []pt
	for i, piece := range cubics {
		flat, code := impl.FlattenCubic(piece, tolerance)
		if code != impl.OK {
			return nil, code
		}
		if i > 0 {
			flat = flat[1:]
		}
		if isClosed && i == len(cubics)-1 {
			flat = flat[:len(flat)-1]
		}
		all = append(all, flat...)
	}
	if code == impl.OK && len(all) > 400 {
		return nil, impl.ErrFull
	}
	return all, code
}

func checkTrace(t *testing.T, list []pt, curved, isClosed bool, tolerance int64) ([]pt, int64) {
	t.Helper()
	got, code := impl.TracePoints(list, curved, isClosed, tolerance)
	want, due := wantedTrace(list, curved, isClosed, tolerance)
	check(t, show("TracePoints", list, curved, isClosed, tolerance), show(got, code), show(want, due))
	return got, code
}

func TestTracePoints(t *testing.T) {
	cases := []struct {
		list             string
		curved, isClosed bool
		tolerance        int64
		want             string
		code             int64
	}{
		{"0,0 3,0", true, false, 1, "0,0 3,0", 0}, {"0,0 3,0", false, false, 1, "0,0 3,0", 0}, {"0,0 3,0", false, true, 1, "0,0 3,0", 0}, {"0,0 0,0", false, false, 1, "0,0 0,0", 0}, {"5,5 9,0 5,5 9,0", false, true, 262144, "5,5 9,0 5,5 9,0", 0}, {"0,0 60,0 60,60 0,60", false, true, 1, "0,0 60,0 60,60 0,60", 0},
		// The slope at the first knot is 45,-45, so that its cubic has the points 0,0 15,-15 45,-15 60,0 and the bend 30.
		{"0,0 60,0 60,60 0,60", true, true, 23, "0,0 60,0 60,60 0,60", 0}, {"0,0 60,0 60,60 0,60", true, true, 22, "0,0 30,-11 60,0 71,30 60,60 30,71 0,60 -11,30", 0},
		// The slopes are 24,18, 24,0 and 24,-18; the cubics have the points 0,0 8,6 16,12 24,12 and 24,12 32,12 40,6 48,0.
		{"0,0 24,12 48,0", true, false, 5, "0,0 24,12 48,0", 0}, {"0,0 24,12 48,0", true, false, 4, "0,0 12,8 24,12 36,8 48,0", 0},
		{"0,0", false, false, 1, "", 1}, {"0,0", true, false, 1, "", 1}, {"", false, false, 1, "", 1}, {"0,0 3,0", true, true, 1, "", 1}, {"0,0 0,0", true, false, 1, "", 1}, {"0,0 3,0 3,0", true, false, 1, "", 1}, {"0,0 3,0 0,0", true, true, 1, "", 1}, {"0,0 3,0 0,0", true, false, 100, "0,0 3,0 0,0", 0}, {strings.Repeat("0,0 1,0 ", 5) + "0,0", true, false, 1, "", 1}, {strings.Repeat("0,0 1,0 ", 5) + "0,0", false, true, 1, "", 1},
		{"0,0 3,0", true, false, 0, "", 2}, {"0,0 3,0", false, false, 0, "", 2}, {"0,0 3,0", false, true, 262145, "", 2}, {"0,0 3,0", true, false, -1, "", 2}, {"0,0", true, false, 0, "", 1}, {"0,0 0,0", true, false, 0, "", 1}, {"0,0 0,0", false, false, 0, "", 2},
		// Control points out of the range, and curves that bend too much.
		{"-262144,-262144 262144,-262144 262144,262144 -262144,262144", true, true, 262144, "", 2}, {"0,-262144 262144,0 0,262144", true, false, 262144, "0,-262144 262144,0 0,262144", 0}, {"-262144,0 262144,0", true, false, 1, "-262144,0 262144,0", 0},
		{"0,0 60000,0 60000,60000 0,60000", true, true, 5, "", 5}, {"0,0 15000,0 15000,15000 0,15000", true, true, 1, "", 5}, {"-262144,-262144 262144,-262144 262144,262144 -262144,262144", true, true, 0, "", 2},
	}
	for _, c := range cases {
		got, code := checkTrace(t, points(c.list), c.curved, c.isClosed, c.tolerance)
		check(t, show("TracePoints", c.list, c.curved, c.isClosed, c.tolerance), show(got, code), show(points(c.want), c.code))
	}
	for _, bad := range badPts() {
		for _, list := range [][]pt{{bad, at(0, 0)}, {at(0, 0), bad}, {at(0, 0), bad, at(4, 4)}} {
			for _, curved := range []bool{false, true} {
				_, code := checkTrace(t, list, curved, false, 1)
				check(t, show("a point that is not valid", list), code, impl.ErrInvalid)
			}
		}
	}
	random, codes := fixedRandom(), map[string]int{}
	for range 3000 {
		list := manyPts(random, 1+random.Intn(11), int64(4)<<random.Intn(17))
		curved, isClosed := random.Intn(4) > 0, random.Intn(2) == 0
		got, code := checkTrace(t, list, curved, isClosed, 1+random.Int63n(1<<random.Intn(19)))
		codes[show(curved, code)]++
		if curved && code == impl.OK {
			checkKnots(t, list, got, isClosed)
		}
	}
	for _, kind := range []string{"[true 0]", "[true 1]", "[true 2]", "[true 5]", "[false 0]", "[false 1]"} {
		if codes[kind] < 20 {
			t.Errorf("too few paths of this kind: %s in %v", kind, codes)
		}
	}
}

// checkKnots holds the points of a curve to lead through its knots in order, from the first one to the last one.
func checkKnots(t *testing.T, knots, way []pt, isClosed bool) {
	t.Helper()
	rest := way
	for _, p := range knots {
		i := slices.Index(rest, p)
		if i < 0 {
			t.Errorf("the way %v does not lead through the knots %v", way, knots)
			return
		}
		rest = rest[i+1:]
	}
	check(t, "the way begins at the first knot", way[0], knots[0])
	if !isClosed {
		check(t, "the way ends at the last knot", way[len(way)-1], knots[len(knots)-1])
	}
}

// TestTraceLimits has paths with as many points as there may be, and with one more.
func TestTraceLimits(t *testing.T) {
	for _, line := range []string{"-25,7 -683,-2333 3572,325 2586,2270 2230,3099 2222,3105 2243,3080 2250,3072", "1908,-1395 1253,-5556 1246,-5540 514,615 483,599 2257,2151 2276,2128 2195,2041 2167,1997"} {
		got, code := checkTrace(t, points(line), true, true, 1)
		check(t, "as many points as there may be", show(len(got), code), show(400, impl.OK))
		checkKnots(t, points(line), got, true)
	}
	for _, line := range []string{"-82,-46 -87,-51 -61,-23 1492,3108 1524,2991 3135,-4566 3026,-4502 2823,-4751 2835,-4763", "-83,97 3456,1170 3418,1063 3674,1295 -2782,-3865 -2171,-3798 -2422,-3660 -2466,-3862"} {
		_, code := checkTrace(t, points(line), true, false, 1)
		check(t, "one point more", code, impl.ErrFull)
		all, code := checkTrace(t, points(line), true, false, 4)
		check(t, "fewer points with another tolerance", show(len(all) < 400, code), show(true, impl.OK))
	}
}

// wantedStep is what StepScene has to return.
func wantedStep(s scene, x statement, tolerance int64) (scene, int64) {
	switch {
	case !sceneIsValid(s) || !wantedValid(x):
		return scene{}, impl.ErrInvalid
	case tolerance < 1 || tolerance > 262144:
		return scene{}, impl.ErrRange
	}
	next := copyOfScene(s)
	if code := wantedEffect(&next, x, tolerance); code != impl.OK {
		return scene{}, code
	}
	return next, impl.OK
}

// wantedEffect changes a state as the table of the document says; after an error the state does not matter.
func wantedEffect(s *scene, x statement, tolerance int64) (code int64) {
	switch x.Kind {
	case impl.StLet:
		s.System, _, code = impl.Equate(s.System, expr("1*"+x.Name), x.Left)
	case impl.StEquation:
		s.System, _, code = impl.Equate(s.System, x.Left, x.Right)
	case impl.StPen:
		for _, p := range s.Pens {
			if p.Name == x.Name {
				return impl.ErrExists
			}
		}
		if len(s.Pens) >= 12 {
			return impl.ErrFull
		}
		pen, code := impl.OvalPen(x.Numbers[0], x.Numbers[0])
		if len(x.Numbers) == 2 {
			pen, code = impl.BoxPen(x.Numbers[0], x.Numbers[1])
		}
		s.Pens = append(s.Pens, namedPen{Name: x.Name, Pen: pen})
		return code
	case impl.StPath:
		return wantedPathEffect(s, x, tolerance)
	case impl.StGlyph:
		if s.Open {
			return impl.ErrState
		}
		s.Open, s.Now = true, glyph{Name: x.Name, Code: x.Numbers[0], Advance: x.Numbers[1]}
		if !glyphIsValid(s.Now) {
			return impl.ErrRange
		}
	case impl.StFill, impl.StErase, impl.StStroke:
		return wantedShapeEffect(s, x)
	case impl.StAnchor, impl.StPart:
		return wantedNowEffect(s, x)
	default:
		if !s.Open || len(s.Now.Parts) > 0 && len(s.Shape.Rings) > 0 {
			return impl.ErrState
		}
		s.Now.Outline, code = impl.FitRegion(s.Shape, tolerance)
		if code == impl.OK {
			s.Set, code = impl.AddGlyph(s.Set, s.Now)
		}
		s.Open, s.Now, s.Shape = false, glyph{}, region{}
	}
	return code
}

func wantedPathEffect(s *scene, x statement, tolerance int64) int64 {
	for _, p := range s.Paths {
		if p.Name == x.Name {
			return impl.ErrExists
		}
	}
	if len(s.Paths) >= 24 {
		return impl.ErrFull
	}
	var list []pt
	for _, name := range x.Points {
		p, code := wantedPoint(s.System, name)
		if code != impl.OK {
			return code
		}
		list = append(list, p)
	}
	way, code := wantedTrace(list, x.Curved, x.Closed, tolerance)
	s.Paths = append(s.Paths, namedPath{Name: x.Name, Points: way, Closed: x.Closed})
	return code
}

func wantedShapeEffect(s *scene, x statement) int64 {
	if !s.Open {
		return impl.ErrState
	}
	path := slices.IndexFunc(s.Paths, func(p namedPath) bool { return p.Name == x.Name })
	if path < 0 {
		return impl.ErrNotFound
	}
	combine, more, code := impl.UnionOf, region{Rings: []ring{{Points: s.Paths[path].Points}}}, int64(impl.OK)
	switch x.Kind {
	case impl.StStroke:
		pen := slices.IndexFunc(s.Pens, func(p namedPen) bool { return p.Name == x.Other })
		if pen < 0 {
			return impl.ErrNotFound
		}
		more, code = impl.StrokeOf(s.Pens[pen].Pen, s.Paths[path].Points, s.Paths[path].Closed)
	case impl.StErase:
		combine = impl.MinusOf
	}
	if x.Kind != impl.StStroke && !s.Paths[path].Closed {
		return impl.ErrState
	}
	if code == impl.OK {
		s.Shape, code = combine(s.Shape, more)
	}
	return code
}

func wantedNowEffect(s *scene, x statement) int64 {
	if !s.Open {
		return impl.ErrState
	}
	if x.Kind == impl.StAnchor {
		for _, a := range s.Now.Anchors {
			if a.Name == x.Name {
				return impl.ErrExists
			}
		}
		if len(s.Now.Anchors) >= 6 {
			return impl.ErrFull
		}
		place, code := wantedPoint(s.System, x.Points[0])
		s.Now.Anchors = append(s.Now.Anchors, anchor{Name: x.Name, At: place})
		return code
	}
	index := slices.IndexFunc(s.Set.Glyphs, func(g glyph) bool { return g.Name == x.Name })
	switch move := at(x.Numbers[0], x.Numbers[1]); {
	case index < 0:
		return impl.ErrNotFound
	case len(s.Now.Parts) >= 6:
		return impl.ErrFull
	case !isPlace(move):
		return impl.ErrRange
	default:
		s.Now.Parts = append(s.Now.Parts, part{Glyph: int64(index), Move: move})
		return impl.OK
	}
}

// checkStep holds StepScene against the table of the document.
func checkStep(t *testing.T, s scene, x statement, tolerance int64) (scene, int64) {
	t.Helper()
	got, code := impl.StepScene(s, x, tolerance)
	want, due := wantedStep(s, x, tolerance)
	if code != due || show(got) != show(want) {
		t.Errorf("StepScene(%+v, %+v, %d): got %+v with code %d, want %+v with code %d", s, x, tolerance, got, code, want, due)
	}
	check(t, "the state is valid", impl.ValidScene(got), due == impl.OK)
	return got, code
}

// programOf reads statements, which have to be valid.
func programOf(text string) []statement {
	list, _, code := wantedProgram(text)
	if code != impl.OK {
		panic(text)
	}
	return list
}

// sceneAfter returns the state after some statements, none of which may have an error.
func sceneAfter(t *testing.T, s scene, text string) scene {
	t.Helper()
	for _, x := range programOf(text) {
		next, code := checkStep(t, s, x, 1)
		if code != impl.OK {
			t.Fatalf("%s of %s has the code %d", impl.StatementText(x), text, code)
		}
		s = next
	}
	return s
}

// prelude are statements for points at the corners of a square, two pens, a closed path and an open one.
const prelude = "a.x=0; a.y=0; b.x=100; b.y=0; c.x=100; c.y=100; d.x=0; d.y=100; far.x=262145; far.y=0; edge.x=262144; edge.y=0; free.x=1; pen n box 10 10; pen m round 20; path o a -- b -- c -- d -- cycle; path l a -- b; path rim edge -- a;"

// stepCase is a state, given by statements behind the prelude, a statement, and the code that it has there.
type stepCase struct {
	before, text string
	code         int64
}

func stepCases() []stepCase {
	six := "glyph g 1 1; anchor p1 a; anchor p2 a; anchor p3 a; anchor p4 a; anchor p5 a; anchor p6 a;"
	parts := "glyph g 1 1; end; glyph h 2 2;" + strings.Repeat("part g 1 2;", 6)
	return []stepCase{
		{"", "let w = 3;", 0}, {"let w = 3;", "let w = 3;", 0}, {"let w = 3;", "let w = 4;", 6}, {"w = 2*v;", "let w = 3;", 0}, {"1000000*w = v;", "let w = 1000;", 0}, {"1000000*w = v;", "let w = 1001;", 2}, {numberedLets(11), "let w = 3;", 5}, {numberedLets(10), "let w = 3;", 0},
		{"", "w + v = 3;", 0}, {"w + v = 3;", "w + v = 3;", 0}, {"w + v = 3;", "v = 4 - w;", 6}, {"", "1 = 2;", 6}, {"", "1 = 1;", 0}, {numberedLets(11), "w = v;", 5}, {numberedLets(11), "w10 = 1;", 0}, {"", "1/1000000*w = 1000*v + 1000000000;", 2},
		{"", "pen k box 0 0;", 0}, {"", "pen k box 262144 262144;", 0}, {"", "pen k box 262145 0;", 2}, {"", "pen k box 0 -1;", 2}, {"", "pen k round 262144;", 0}, {"", "pen k round 262145;", 2}, {"", "pen k round -1;", 2}, {"", "pen o box 1 1;", 0}, {"", "pen n box 1 1;", 4}, {"", "pen n box -1 1;", 4}, {numberedPens(9), "pen k round 1;", 0}, {numberedPens(10), "pen k round 1;", 5}, {numberedPens(10), "pen k round -1;", 5}, {numberedPens(10), "pen n round 1;", 4},
		{"", "path k a -- b;", 0}, {"", "path k a .. b .. c;", 0}, {"", "path k a .. b .. c .. cycle;", 0}, {"", "path n a -- b;", 0}, {"", "path o a -- b;", 4}, {"", "path o u -- v;", 4}, {numberedPaths(20), "path k a -- b;", 0}, {numberedPaths(21), "path k a -- b;", 5}, {numberedPaths(21), "path k u -- v;", 5}, {numberedPaths(21), "path o u -- v;", 4},
		{"", "path k a -- u;", 3}, {"", "path k free -- a;", 3}, {"free.y = w;", "path k free -- a;", 6}, {"free.y = w;", "path k free -- u;", 6}, {"free.y = w;", "path k u -- free;", 3}, {"", "path k a -- far;", 2}, {"", "path k far -- u;", 2}, {"", "path k u -- far;", 3}, {"", "path k edge -- a;", 0}, {"", "path k a .. a;", 1}, {"", "path k a -- a;", 0}, {"", "path k a .. b .. a .. cycle;", 1}, {"", "path k a -- b -- a -- cycle;", 0}, {"", "path k a .. a .. far;", 2}, {"", "path k a .. edge .. c;", 2}, {"p.x = 60000; p.y = 0; q.x = 60000; q.y = 60000;", "path k a .. p .. q .. cycle;", 5}, {"p.x = 262144; p.y = 262144; q.x = -262144; q.y = 262144;", "path k p .. q .. a .. b .. cycle;", 2},
		{"", "glyph g 1 1;", 0}, {"", "glyph g -1 0;", 0}, {"", "glyph g 65535 262144;", 0}, {"", "glyph g -2 0;", 2}, {"", "glyph g 65536 0;", 2}, {"", "glyph g 1 -1;", 2}, {"", "glyph g 1 262145;", 2}, {"glyph g 1 1;", "glyph h 2 2;", 6}, {"glyph g 1 1;", "glyph g -2 2;", 6}, {"glyph g 1 1; end;", "glyph g 1 1;", 0},
		{"glyph g 1 1;", "fill o;", 0}, {"", "fill o;", 6}, {"", "fill u;", 6}, {"", "fill l;", 6}, {"glyph g 1 1;", "fill u;", 3}, {"glyph g 1 1;", "fill l;", 6}, {"glyph g 1 1;", "fill n;", 3}, {"glyph g 1 1; end;", "fill o;", 6},
		{"glyph g 1 1;", "erase o;", 0}, {"glyph g 1 1; fill o;", "erase o;", 0}, {"", "erase o;", 6}, {"", "erase u;", 6}, {"glyph g 1 1;", "erase u;", 3}, {"glyph g 1 1;", "erase l;", 6},
		{"glyph g 1 1;", "stroke o with n;", 0}, {"glyph g 1 1;", "stroke l with m;", 0}, {"", "stroke l with n;", 6}, {"", "stroke u with n;", 6}, {"glyph g 1 1;", "stroke u with n;", 3}, {"glyph g 1 1;", "stroke l with u;", 3}, {"glyph g 1 1;", "stroke n with l;", 3}, {"glyph g 1 1;", "stroke rim with n;", 2}, {"glyph g 1 1;", "stroke rim with u;", 3},
		{"glyph g 1 1;", "anchor top a;", 0}, {"glyph g 1 1;", "anchor a a;", 0}, {"", "anchor top a;", 6}, {"", "anchor top u;", 6}, {"glyph g 1 1; anchor top a;", "anchor top b;", 4}, {"glyph g 1 1; anchor top a;", "anchor top u;", 4}, {six, "anchor p1 u;", 4}, {six, "anchor top a;", 5}, {six, "anchor top u;", 5}, {"glyph g 1 1;", "anchor top u;", 3}, {"glyph g 1 1;", "anchor top free;", 3}, {"free.y = w; glyph g 1 1;", "anchor top free;", 6}, {"glyph g 1 1;", "anchor top far;", 2}, {"glyph g 1 1;", "anchor top edge;", 0},
		{"glyph g 1 1; anchor top a; end; glyph h 2 2;", "anchor top b;", 0}, {"glyph g 1 1; end; glyph h 2 2;", "part g 0 0;", 0}, {"glyph g 1 1; end; glyph h 2 2;", "part g -262144 262144;", 0}, {"glyph g 1 1; end;", "part g 0 0;", 6}, {"", "part u 262145 0;", 6}, {"glyph g 1 1;", "part g 0 0;", 3}, {"glyph g 1 1;", "part u 262145 0;", 3}, {"glyph g 1 1; end; glyph h 2 2;", "part g 262145 0;", 2}, {"glyph g 1 1; end; glyph h 2 2;", "part g 0 -262145;", 2}, {parts, "part g 0 0;", 5}, {parts, "part g 262145 0;", 5}, {parts, "part u 0 0;", 3},
		{"", "end;", 6}, {"glyph g 1 1; end;", "end;", 6}, {"glyph g 1 1;", "end;", 0}, {"glyph g 1 1; fill o;", "end;", 0}, {parts, "end;", 0}, {parts + "fill o;", "end;", 6}, {parts + "fill o; erase o;", "end;", 0}, {parts + "erase o;", "end;", 0}, {"glyph g 1 1; end; glyph g 2 2;", "end;", 4}, {"glyph g 1 1; end; glyph h 1 2;", "end;", 4}, {"glyph g -1 1; end; glyph h -1 2;", "end;", 0}, {"glyph g 1 1; fill o; end; glyph g 2 2; part g 0 0; fill o;", "end;", 6},
		{numberedGlyphs(40), "glyph g 5 5;", 0}, {numberedGlyphs(40) + "glyph g 5 5;", "end;", 5}, {numberedGlyphs(39) + "glyph g 5 5;", "end;", 0}, {numberedGlyphs(40) + "glyph g10 5 5;", "end;", 4},
	}
}

func numberedLets(count int) string {
	text := ""
	for _, name := range numbered("w", count) {
		text += "let " + name + " = 1;"
	}
	return text
}

func numberedPens(count int) string {
	text := ""
	for _, name := range numbered("k", count) {
		text += "pen " + name + " round 5;"
	}
	return text
}

func numberedPaths(count int) string {
	text := ""
	for _, name := range numbered("k", count) {
		text += "path " + name + " a -- b;"
	}
	return text
}

func numberedGlyphs(count int) string {
	text := ""
	for _, name := range numbered("g", count) {
		text += "glyph " + name + " -1 5; end;"
	}
	return text
}

func TestStepScene(t *testing.T) {
	t.Parallel()
	codes := map[string]bool{}
	start := sceneAfter(t, scene{Set: setOf()}, prelude)
	for _, c := range stepCases() {
		s, x := sceneAfter(t, start, c.before), programOf(c.text)[0]
		_, code := checkStep(t, s, x, 1)
		check(t, c.before+" and then "+c.text, code, c.code)
		codes[show(x.Kind, code)] = true
		for _, tolerance := range []int64{0, -1, 262145} {
			_, code := checkStep(t, s, x, tolerance)
			check(t, "a tolerance that is none", code, impl.ErrRange)
		}
		_, code = checkStep(t, s, statement{Kind: 12}, 0)
		check(t, "a statement that is not valid, and a tolerance that is none", code, impl.ErrInvalid)
	}
	if len(codes) != 47 {
		t.Errorf("other codes than planned: %d of %v", len(codes), codes)
	}
}

// squares returns a region with as many squares in a row.
func squares(count int) region {
	var r region
	for i := range int64(count) {
		r.Rings = append(r.Rings, ringOf(at(20*i, 0), at(20*i+9, 0), at(20*i+9, 9), at(20*i, 9)))
	}
	return r
}

// TestStepFull has states in which a shape has as many rings, edges or knots as there may be.
func TestStepFull(t *testing.T) {
	lone, comb400 := ringOf(points("0,50 9,50 9,59 0,59")...), region{Rings: []ring{comb(400, 0, 0)}}
	long := inLine(60, at(0, 0), at(20, 0))
	for i := range long {
		long[i].Y = int64(i%2) * 30
	}
	s := scene{Set: setOf(leaf("a")), Open: true, Now: leaf("now"), Pens: []namedPen{{Name: "n", Pen: points("0,0 3,0 3,3 0,3")}}, Paths: []namedPath{{Name: "lone", Points: lone.Points, Closed: true}, {Name: "wide", Points: points("-9,-9 900,-9 900,5 -9,5"), Closed: true}, {Name: "in", Points: points("2,2 4,2 4,4 2,4"), Closed: true}, {Name: "long", Points: long}, {Name: "most", Points: comb(400, 0, 0).Points, Closed: true}}}
	cases := []struct {
		shape region
		text  string
		code  int64
	}{
		{squares(39), "fill lone;", 0}, {squares(40), "fill lone;", 5}, {squares(40), "fill wide;", 0}, {squares(39), "erase in;", 0}, {squares(40), "erase in;", 5}, {squares(40), "erase wide;", 0}, {squares(40), "erase lone;", 0}, {squares(39), "stroke lone with n;", 5}, {squares(38), "stroke lone with n;", 0}, {region{}, "stroke long with n;", 5}, {region{}, "stroke most with n;", 5}, {region{}, "fill most;", 0}, {comb400, "fill most;", 5}, {comb400, "fill lone;", 5},
		{squares(12), "end;", 0}, {squares(13), "end;", 5}, {region{Rings: []ring{comb(60, 0, 0)}}, "end;", 0}, {region{Rings: []ring{comb(61, 0, 0)}}, "end;", 5}, {comb400, "end;", 5},
	}
	for _, c := range cases {
		s.Shape = c.shape
		_, code := checkStep(t, s, programOf(c.text)[0], 1)
		check(t, show(c.shape, c.text), code, c.code)
	}
	// A state may have parts that are no glyphs of its set.
	s.Shape = region{}
	for index, want := range []int64{impl.OK, impl.ErrRange, impl.ErrRange} {
		s.Now.Parts = []part{partAt(0, 5, 5), partAt(int64(index), 0, 0)}
		_, code := checkStep(t, s, programOf("end;")[0], 1)
		check(t, show("a part", index), code, want)
	}
	s.Now.Name = "a"
	_, code := checkStep(t, s, programOf("end;")[0], 1)
	check(t, "a name that exists, and a part that does not", code, impl.ErrExists)
}

func TestStepInvalid(t *testing.T) {
	good := sceneAfter(t, scene{Set: setOf()}, prelude+"glyph g 1 1; fill o;")
	for _, s := range badScenes() {
		for _, x := range programOf("let w = 3; end; glyph g 1 1;") {
			for _, tolerance := range []int64{1, 0} {
				got, code := impl.StepScene(s, x, tolerance)
				if code != impl.ErrInvalid || show(got) != show(scene{}) {
					t.Errorf("StepScene(%+v, %+v): got %+v with code %d", s, x, got, code)
				}
			}
		}
	}
	for _, x := range badStatements() {
		got, code := impl.StepScene(good, x, 1)
		check(t, show("StepScene", x), show(got, code), show(scene{}, impl.ErrInvalid))
	}
}

// TestStepEffects has the document's example and others whose results are written out.
func TestStepEffects(t *testing.T) {
	s := sceneAfter(t, scene{Set: setOf()}, prelude)
	check(t, "text", impl.SceneText(s), "known 13 pens 2 paths 3 glyphs 0 rings 0")
	s = sceneAfter(t, s, "glyph g 97 120; stroke l with n;")
	check(t, "stroke", show(s.Shape), show(regionOf("-5,-5 105,-5 105,5 -5,5")))
	check(t, "text", impl.SceneText(s), "known 13 pens 2 paths 3 glyphs 0 rings 1")
	s = sceneAfter(t, s, "anchor top c; anchor low a; end;")
	want := glyph{Name: "g", Code: 97, Advance: 120, Outline: outlineOf("-5,-5 105,-5 105,5 -5,5"), Anchors: []anchor{anchorAt("top", 100, 100), anchorAt("low", 0, 0)}}
	check(t, "glyph", show(s.Set.Glyphs, s.Open, s.Now, s.Shape), show([]glyph{want}, false, glyph{}, region{}))
	check(t, "text", impl.SceneText(s), "known 13 pens 2 paths 3 glyphs 1 rings 0")
	s = sceneAfter(t, s, "let e.x = 30; 2*e.y = 60; let f.x = 70; f.y = e.y; i.x = f.x; i.y = 3*f.y - 20; j.x = e.x; j.y = i.y; path hole e -- f -- i -- j -- cycle; glyph o -1 110; fill o; erase hole;")
	check(t, "a hole", show(s.Shape), show(regionOf("0,0 100,0 100,100 0,100", "30,30 30,70 70,70 70,30")))
	check(t, "text", impl.SceneText(s), "known 21 pens 2 paths 4 glyphs 1 rings 2")
	s = sceneAfter(t, s, "fill hole; end; glyph two 98 250; part g 5 6; part o -7 8; part g 0 0;")
	check(t, "now", show(s.Open, s.Now), show(true, glyph{Name: "two", Code: 98, Advance: 250, Parts: []part{partAt(0, 5, 6), partAt(1, -7, 8), partAt(0, 0, 0)}}))
	s = sceneAfter(t, s, "end;")
	check(t, "set", impl.SetText(s.Set), "unit 1000\nglyph g 97 120\nloop -5,-5 105,-5 105,5 -5,5\nanchor top 100,100\nanchor low 0,0\nend\nglyph o -1 110\nloop 0,0 100,0 100,100 0,100\nend\nglyph two 98 250\npart 0 5,6\npart 1 -7,8\npart 0 0,0\nend\n")
	// A path keeps the points that it was made of, and a closed stroke leaves a hole.
	s = sceneAfter(t, s, "glyph frame 102 100; stroke o with n;")
	check(t, "frame", show(s.Shape), show(regionOf("-5,-5 5,-5 95,-5 105,-5 105,5 105,95 105,105 95,105 5,105 -5,105 -5,95 -5,5", "5,5 5,95 95,95 95,5")))
	check(t, "pens", show(s.Pens), show([]namedPen{{Name: "n", Pen: points("-5,-5 5,-5 5,5 -5,5")}, {Name: "m", Pen: points("-4,-10 4,-10 10,-4 10,4 4,10 -4,10 -10,4 -10,-4")}}))
	check(t, "paths", show(s.Paths[:3]), show([]namedPath{{Name: "o", Points: points("0,0 100,0 100,100 0,100"), Closed: true}, {Name: "l", Points: points("0,0 100,0")}, {Name: "rim", Points: points("262144,0 0,0")}}))
}

func TestSceneText(t *testing.T) {
	for _, s := range goodScenes() {
		known := 0
		for _, row := range s.System.Rows {
			if len(row.Value.Terms) == 0 {
				known++
			}
		}
		check(t, "SceneText", impl.SceneText(s), strings.Join([]string{"known", impl.Decimal(int64(known)), "pens", impl.Decimal(int64(len(s.Pens))), "paths", impl.Decimal(int64(len(s.Paths))), "glyphs", impl.Decimal(int64(len(s.Set.Glyphs))), "rings", impl.Decimal(int64(len(s.Shape.Rings)))}, " "))
	}
	check(t, "at the limits", impl.SceneText(goodScenes()[4]), "known 24 pens 12 paths 24 glyphs 40 rings 3")
	check(t, "known names", impl.SceneText(goodScenes()[5]), "known 2 pens 2 paths 3 glyphs 6 rings 0")
	check(t, "nothing", impl.SceneText(scene{Set: glyphSet{Unit: 16}}), "known 0 pens 0 paths 0 glyphs 0 rings 0")
}

// wantedRun is what EvaluateProgram has to return.
func wantedRun(unit int64, list []statement, tolerance int64) (glyphSet, int64, int64) {
	if len(list) > 100 || slices.ContainsFunc(list, func(x statement) bool { return !wantedValid(x) }) {
		return glyphSet{}, 0, impl.ErrInvalid
	}
	if unit < 16 || unit > 16384 {
		return glyphSet{}, 0, impl.ErrRange
	}
	s, code := scene{Set: glyphSet{Unit: unit}}, int64(impl.OK)
	for i, x := range list {
		if s, code = wantedStep(s, x, tolerance); code != impl.OK {
			return glyphSet{}, int64(i), code
		}
	}
	if s.Open {
		return glyphSet{}, int64(len(list)), impl.ErrState
	}
	return s.Set, int64(len(list)), impl.OK
}

// checkRun holds EvaluateProgram and EvaluateText against single steps.
func checkRun(t *testing.T, unit int64, list []statement, tolerance int64) (int64, int64) {
	t.Helper()
	set, n, code := impl.EvaluateProgram(unit, list, tolerance)
	want, wanted, due := wantedRun(unit, list, tolerance)
	if show(set, n, code) != show(want, wanted, due) {
		t.Errorf("EvaluateProgram(%d, %+v, %d): got %+v with %d and code %d, want %+v with %d and code %d", unit, list, tolerance, set, n, code, want, wanted, due)
	}
	if text := impl.ProgramText(list); text != "" {
		again, m, same := impl.EvaluateText(unit, text, tolerance)
		check(t, "the same from a text", show(again, m, same), show(set, n, code))
	}
	return n, code
}

func TestEvaluateProgram(t *testing.T) {
	full := programOf(numberedGlyphs(40))
	cases := []struct {
		unit      int64
		list      []statement
		tolerance int64
		n, code   int64
	}{
		{1000, nil, 1, 0, 0}, {16, nil, 0, 0, 0}, {15, nil, 1, 0, 2}, {16385, nil, 1, 0, 2}, {16384, full, 1, 80, 0}, {1000, full, 0, 0, 2}, {1000, full, 262145, 0, 2}, {15, full, 0, 0, 2},
		{1000, programOf("glyph a 97 5; end;"), 1, 2, 0}, {1000, programOf("glyph a 97 5; end; end;"), 1, 2, 6}, {1000, programOf("glyph a 97 5;"), 1, 1, 6}, {1000, programOf("let w = 1; path o u -- v; end;"), 1, 1, 3}, {1000, programOf("end;"), 1, 0, 6}, {1000, programOf("let w = 1; let w = 2; glyph a 1 1;"), 1, 1, 6}, {1000, programOf("let w = 1; glyph a 1 1; let v = 2;"), 1, 3, 6},
		{1000, slices.Concat(full, programOf("glyph a 1 1; end; end;")), 1, 81, 5}, {1000, slices.Concat(full, programOf("glyph a 1 1;")), 1, 81, 6}, {1000, slices.Repeat(programOf("let w = 1;"), 100), 1, 100, 0}, {1000, slices.Repeat(programOf("let w = 1;"), 101), 1, 0, 1}, {15, slices.Repeat(programOf("let w = 1;"), 101), 0, 0, 1}, {1000, append(programOf("end; end;"), statement{Kind: 12}), 1, 0, 1}, {15, append(programOf("end;"), statement{}), 0, 0, 1}, {1000, []statement{{Kind: impl.StFill}}, 0, 0, 1},
	}
	for _, c := range cases {
		n, code := checkRun(t, c.unit, c.list, c.tolerance)
		check(t, show("EvaluateProgram", c.unit, c.list, c.tolerance), show(n, code), show(c.n, c.code))
	}
	for _, x := range badStatements() {
		n, code := checkRun(t, 1000, []statement{programOf("end;")[0], x}, 1)
		check(t, show("a statement that is not valid", x), show(n, code), show(0, impl.ErrInvalid))
	}
}

func TestEvaluateText(t *testing.T) {
	cases := []struct {
		unit            int64
		text            string
		tolerance       int64
		glyphs, n, code int64
	}{
		{1000, "", 1, 0, 0, 0}, {1000, " % nothing\n", 0, 0, 0, 0}, {15, "", 1, 0, 0, 2}, {1000, "glyph a 97 5; end;", 1, 1, 2, 0}, {1000, "glyph a 97 5; end;glyph b 98 5; % more\n end;", 1, 2, 4, 0}, {1000, "  glyph a 97 5;", 1, 0, 1, 6}, {1000, "glyph a 97 5; end; end;", 1, 0, 2, 6}, {1000, "end;", 0, 0, 0, 2}, {1000, "path o u -- v;", 1, 0, 0, 3},
		// Errors of the text come first, with their places in it.
		{1000, "end; fill;", 1, 0, 5, 7}, {15, "end; fill;", 0, 0, 5, 7}, {1000, "end; ?", 1, 0, 5, 7}, {1000, "end; end", 1, 0, 5, 7}, {1000, "  let w = 1000000000*a + 1000000000*a;", 1, 0, 2, 2}, {1000, strings.Repeat("end;", 101), 1, 0, 400, 5}, {15, strings.Repeat("end;", 100), 1, 0, 0, 2}, {1000, strings.Repeat("; ", 601), 1, 0, 1200, 5}, {16384, strings.Repeat("let w=1;", 100), 262144, 0, 100, 0},
	}
	for _, c := range cases {
		set, n, code := impl.EvaluateText(c.unit, c.text, c.tolerance)
		check(t, show("EvaluateText", c.unit, c.text, c.tolerance), show(len(set.Glyphs), n, code), show(c.glyphs, c.n, c.code))
		check(t, "unit", set.Unit*min(code, 1), 0)
		list, stop, due := impl.ReadProgram(c.text)
		want, wanted, end := wantedRun(c.unit, list, c.tolerance)
		if due != impl.OK {
			want, wanted, end = glyphSet{}, stop, due
		}
		check(t, show("wanted", c.text), show(set, n, code), show(want, wanted, end))
	}
}

// somePoint and the other ones return names of which most exist when they are used.
func somePoint(random *rand.Rand) string {
	return pick(random, []string{"a", "b", "c", "d", "a", "b", "c", "d", "e", "u"})
}

// describedPoints returns statements after which most of the points are known, and some of them move with others.
func describedPoints(random *rand.Rand) string {
	text, limit := "", int64(8)<<random.Intn(7)
	for _, name := range []string{"a", "b", "c", "d", "e"} {
		p := placeIn(random, limit)
		forms := []string{"let %s.x = %d; let %s.y = %d;", "%s.x = %d; 2*%s.y = %d;", "%s.x - a.x = %d; %s.y + 0 = %d;", "3*%s.x = %d; %s.y - 1/2 = %d;", "%s.x - h = %d; %s.y = %d;"}
		text += fmt.Sprintf(pick(random, forms[:3+random.Intn(3)]), name, p.X, name, p.Y)
	}
	if random.Intn(2) == 0 {
		text += fmt.Sprintf("let h = %d;", random.Int63n(20))
	}
	return text
}

// randomDescription returns statements of which most can be executed.
func randomDescription(random *rand.Rand) []statement {
	text, isOpen, glyphs := describedPoints(random), false, 0
	path := func() string { return pick(random, []string{"o", "o", "i", "i", "l", "z"}) }
	pen := func() string { return pick(random, []string{"n", "n", "m", "q"}) }
	for range 4 + random.Intn(24) {
		kind := random.Intn(20)
		switch {
		case kind < 3 || random.Intn(4) == 0 && !isOpen:
			text += fmt.Sprintf("pen %s %s;", pen(), pick(random, []string{"box 4 2", "box 1 0", "round 5", "round 0", "box 9 9", "round 20", "box -1 2"}))
		case kind < 8:
			sign := pick(random, []string{" -- ", " .. "})
			text += fmt.Sprintf("path %s %s%s%s%s%s%s;", path(), somePoint(random), sign, somePoint(random), sign, somePoint(random), pick(random, []string{"", sign + "cycle", sign + "cycle", sign + somePoint(random) + sign + "cycle"}))
		case kind == 8 && random.Intn(3) == 0:
			text += fmt.Sprintf("let %s.%s = %d;", somePoint(random), pick(random, []string{"x", "y"}), random.Int63n(9))
		case !isOpen:
			glyphs++
			text += fmt.Sprintf("glyph %s %d %d;", pick(random, []string{"p", "r", "s", "t", fmt.Sprint("g", glyphs)}), 60+random.Intn(40), random.Intn(500))
			isOpen = random.Intn(12) > 0
		case kind < 11:
			text += "fill " + path() + ";"
		case kind < 12:
			text += "erase " + path() + ";"
		case kind < 14:
			text += "stroke " + path() + " with " + pen() + ";"
		case kind < 15:
			text += fmt.Sprintf("anchor %s %s;", pick(random, []string{"top", "low", "mid", "top.2"}), somePoint(random))
		case kind < 16:
			text += fmt.Sprintf("part %s %d %d;", pick(random, []string{"p", "r", "s", "t", "g1", "g2"}), random.Intn(99), random.Intn(99))
		default:
			text += "end;"
			isOpen = random.Intn(12) == 0
		}
	}
	if isOpen && random.Intn(4) > 0 {
		text += "end;"
	}
	list := programOf(text)
	return list[:min(len(list), 100)]
}

// TestDescriptions is promise 9: descriptions of any kind are executed statement by statement.
func TestDescriptions(t *testing.T) {
	t.Parallel()
	random, codes, ends := fixedRandom(), map[string]int{}, map[int64]int{}
	for range 700 {
		list, tolerance := randomDescription(random), []int64{1, 2, 5, 40}[random.Intn(4)]
		s, _ := impl.NewScene(1000)
		// Statements that have an error are left out until the end, so that more of the others can be executed.
		var kept []statement
		for _, x := range list {
			next, code := checkStep(t, s, x, tolerance)
			codes[show(x.Kind, code)]++
			if code == impl.OK {
				s, kept = next, append(kept, x)
			}
		}
		_, code := checkRun(t, 1000, list, tolerance)
		ends[code]++
		n, code := checkRun(t, 1000, kept, tolerance)
		check(t, "the statements that can be executed", show(n, code == impl.OK), show(len(kept), !s.Open))
		ends[code]++
		if set, _, code := impl.EvaluateProgram(1000, kept, tolerance); code == impl.OK {
			check(t, "the set of the last state", show(set), show(s.Set))
			ends[100] += min(len(set.Glyphs), 1)
		}
	}
	for kind := int64(1); kind <= impl.StEnd; kind++ {
		if codes[show(kind, impl.OK)] < 40 {
			t.Errorf("too few statements of kind %d are executed: %v", kind, codes)
		}
	}
	if ends[impl.OK] < 200 || ends[impl.ErrState] < 20 || ends[impl.ErrNotFound] < 20 || ends[100] < 100 {
		t.Errorf("the descriptions are too much alike: %v", ends)
	}
}

// roomyScene returns an equal state, behind whose lists there is room that is not empty.
func roomyScene(s scene) scene {
	s.System, s.Set, s.Now, s.Shape = roomySystem(s.System), roomySet(s.Set), roomyGlyph(s.Now), roomyRegion(s.Shape)
	s.Pens, s.Paths = roomySlice(s.Pens, namedPen{Name: "guard"}), roomySlice(s.Paths, namedPath{Name: "guard"})
	for i, p := range s.Pens {
		s.Pens[i].Pen = roomySlice(p.Pen, at(77, 77))
	}
	for i, p := range s.Paths {
		s.Paths[i].Points = roomySlice(p.Points, at(77, 77))
	}
	return s
}

func sceneMemory(s scene) string {
	var all []any
	for _, p := range s.Pens[:cap(s.Pens)] {
		all = append(all, p, p.Pen[:cap(p.Pen)])
	}
	for _, p := range s.Paths[:cap(s.Paths)] {
		all = append(all, p, p.Points[:cap(p.Points)])
	}
	return show(s, all) + everythingOf(s.System) + glyphMemory(append(s.Set.Glyphs[:cap(s.Set.Glyphs):cap(s.Set.Glyphs)], s.Now)...) + regionMemory(s.Shape)
}

// overwriteScene sets all memory of a state, list by list, and holds the others to stay as they are.
func overwriteScene(t *testing.T, s scene) {
	t.Helper()
	for i, row := range s.System.Rows {
		before := show(s.System.Rows[i+1:], s.Pens, s.Paths, s.Set, s.Now, s.Shape)
		scribble(row.Value)
		check(t, "lists after a row", show(s.System.Rows[i+1:], s.Pens, s.Paths, s.Set, s.Now, s.Shape), before)
	}
	for i, p := range s.Pens {
		before := show(s.Pens[i+1:], s.Paths, s.Set, s.Now, s.Shape)
		overwrite(p.Pen, at(55, 55))
		check(t, "lists after a pen", show(s.Pens[i+1:], s.Paths, s.Set, s.Now, s.Shape), before)
	}
	for i, p := range s.Paths {
		before := show(s.Paths[i+1:], s.Set, s.Now, s.Shape)
		overwrite(p.Points, at(55, 55))
		check(t, "lists after a path", show(s.Paths[i+1:], s.Set, s.Now, s.Shape), before)
	}
	before := show(s.Shape)
	overwriteGlyphs(t, append(slices.Clone(s.Set.Glyphs), s.Now)...)
	check(t, "shape after glyphs", show(s.Shape), before)
	for i, g := range s.Shape.Rings {
		before := show(s.Shape.Rings[i+1:])
		overwrite(g.Points, at(55, 55))
		check(t, "later rings", show(s.Shape.Rings[i+1:]), before)
	}
	overwrite(s.System.Rows, impl.Row{Name: "scribble"})
	overwrite(s.Pens, namedPen{Name: "scribble"})
	overwrite(s.Paths, namedPath{Name: "scribble"})
	overwrite(s.Set.Glyphs, glyph{Name: "scribble"})
	overwrite(s.Shape.Rings, ringOf(at(55, 55)))
}

// sceneArguments are the arguments of all functions of chapter 8.
type sceneArguments struct {
	s, other         scene
	x                statement
	list             []statement
	way              []pt
	name, text       string
	unit, tolerance  int64
	curved, isClosed bool
}

// sceneResults are what these functions return.
type sceneResults struct {
	first, next scene
	flags       []bool
	place       pt
	way         []pt
	run, read   glyphSet
	ran, stop   int64
	text        string
	codes       []int64
}

func sceneResultsOf(a sceneArguments) sceneResults {
	r := sceneResults{codes: make([]int64, 6)}
	r.first, r.codes[0] = impl.NewScene(a.unit)
	r.flags, r.text = []bool{impl.ValidScene(a.s), impl.SameScene(a.s, a.other)}, impl.SceneText(a.s)
	r.place, r.codes[1] = impl.PointOf(a.s.System, a.name)
	r.way, r.codes[2] = impl.TracePoints(a.way, a.curved, a.isClosed, a.tolerance)
	r.next, r.codes[3] = impl.StepScene(a.s, a.x, a.tolerance)
	r.run, r.ran, r.codes[4] = impl.EvaluateProgram(a.unit, a.list, a.tolerance)
	r.read, r.stop, r.codes[5] = impl.EvaluateText(a.unit, a.text, a.tolerance)
	return r
}

// checkZero holds everything that comes with an error to be 0, but for the places of errors.
func (r sceneResults) checkZero(t *testing.T) {
	t.Helper()
	zero := []bool{show(r.first) == show(scene{}), r.place == pt{}, len(r.way) == 0, show(r.next) == show(scene{}), show(r.run) == show(glyphSet{}), show(r.read) == show(glyphSet{})}
	for i, code := range r.codes {
		if code != impl.OK && !zero[i] {
			t.Errorf("result %d is not 0 though the code is %d: %+v", i, code, r)
		}
	}
}

func (r sceneResults) overwriteResults(t *testing.T) {
	t.Helper()
	overwriteScene(t, r.first)
	overwriteScene(t, r.next)
	overwriteScene(t, scene{Set: r.run})
	overwriteScene(t, scene{Set: r.read})
	overwrite(r.way, at(55, 55))
}

// randomSceneArguments returns arguments of any kind; most of them are valid.
func randomSceneArguments(random *rand.Rand, scenes []scene, statements []statement) sceneArguments {
	a := sceneArguments{list: randomDescription(random), way: manyPts(random, 2+random.Intn(5), 40), name: pick(random, []string{"a", "b", "h", "p", "A"}), unit: 16 + random.Int63n(5000), tolerance: 1 + random.Int63n(9), curved: random.Intn(2) == 0, isClosed: random.Intn(2) == 0}
	a.s, _ = impl.NewScene(1000)
	a.x = pick(random, a.list)
	var kept []statement
	for _, x := range a.list[:random.Intn(len(a.list))] {
		if next, code := impl.StepScene(a.s, x, a.tolerance); code == impl.OK {
			a.s, kept = next, append(kept, x)
		}
	}
	if a.other = a.s; random.Intn(3) > 0 {
		if a.list = kept; a.s.Open {
			a.list = append(a.list, programOf("end;")...)
		}
	}
	a.text = impl.ProgramText(a.list)
	switch random.Intn(10) {
	case 0:
		a.s = pick(random, scenes)
	case 1:
		a.x = pick(random, statements)
	case 2:
		a.list = append(a.list, pick(random, statements))
	case 3:
		a.unit, a.tolerance = pick(random, extremeNumbers()), pick(random, extremeNumbers())
	case 4:
		a.way, a.text = pick(random, badPaths()), pick(random, oddTexts())
	case 5:
		a.other = pick(random, scenes)
	case 6:
		a.x = programOf("fill o;")[0]
		a.s = scene{Set: setOf(leaf("a", "0,0 9,9")), Open: true, Now: leaf("b"), Paths: pathsOf(3, true), Shape: squares(3)}
		a.s.Paths[1].Name = "o"
	}
	a.s, a.other, a.x, a.way = roomyScene(a.s), roomyScene(a.other), roomyStatement(a.x), roomySlice(a.way, at(77, 77))
	for i, x := range a.list {
		a.list[i] = roomyStatement(x)
	}
	a.list = roomySlice(a.list, statement{Kind: 77})
	return a
}

// TestScenesTotal is promise 1 for chapter 8: all functions return for all arguments, twice alike, in new memory, and keep their arguments.
func TestScenesTotal(t *testing.T) {
	t.Parallel()
	random, goods := fixedRandom(), map[int]int{}
	scenes, statements := append(badScenes(), goodScenes()...), append(badStatements(), programOf("end; fill o; glyph a 97 5; let w = 3;")...)
	for range 250 {
		a := randomSceneArguments(random, scenes, statements)
		memory := func() string {
			return sceneMemory(a.s) + sceneMemory(a.other) + memoryOf([]statement{a.x}) + memoryOf(a.list) + show(a.way[:cap(a.way)])
		}
		before := memory()
		first := sceneResultsOf(a)
		first.checkZero(t)
		for k, code := range first.codes {
			if code == impl.OK {
				goods[k]++
			}
		}
		shown := show(first)
		check(t, "arguments after all calls", memory(), before)
		first.overwriteResults(t)
		check(t, "arguments after results are overwritten", memory(), before)
		if shown != show(sceneResultsOf(a)) {
			t.Fatal("equal arguments have different results: ", a)
		}
	}
	for i := range 6 {
		if goods[i] < 20 {
			t.Errorf("too few results without an error: %v", goods)
		}
	}
}
