package tests

import (
	"fmt"
	"math"
	"math/big"
	"math/rand"
	"regexp"
	"slices"
	"strconv"
	"strings"
	"testing"

	"loop.example/g00883/impl"
)

type curve = impl.Curve

// open returns an open curve without fixed slopes.
func open(tension int64, knots ...pt) curve { return curve{Knots: knots, Tension: tension} }

func closed(tension int64, knots ...pt) curve {
	return curve{Knots: knots, Tension: tension, Closed: true}
}

func fixFirst(c curve, slope pt) curve {
	c.FixFirst, c.First = true, slope
	return c
}

func fixLast(c curve, slope pt) curve {
	c.FixLast, c.Last = true, slope
	return c
}

// inRow returns points beside one another.
func inRow(count int) []pt {
	list := make([]pt, count)
	for i := range list {
		list[i] = at(int64(i), 0)
	}
	return list
}

// zigzag returns points that are by turns in opposite corners.
func zigzag(count int) []pt {
	list := make([]pt, count)
	for i := range list {
		list[i] = at(impl.MaxCoord, -impl.MaxCoord)
		if i%2 == 1 {
			list[i] = at(-impl.MaxCoord, impl.MaxCoord)
		}
	}
	return list
}

// goodCurves returns valid curves: those at the limits, and others.
func goodCurves() []curve {
	const m = impl.MaxCoord
	two, three, ten := []pt{at(0, 0), at(3, 0)}, []pt{at(0, 0), at(10, 0), at(0, 10)}, inRow(impl.MaxSpline)
	list := []curve{
		open(3, two...), open(12, two...), open(3, three...), open(7, ten...), closed(3, three...), closed(12, three...), closed(4, ten...),
		open(3, zigzag(10)...), closed(3, zigzag(10)...), closed(3, at(m, m), at(-m, m), at(-m, -m), at(m, -m)),
		open(3, at(0, 0), at(1, 0), at(0, 0)), open(3, at(5, 5), at(6, 5), at(7, 5), at(5, 5)), closed(3, at(0, 0), at(1, 0), at(0, 0), at(1, 1)),
		open(3, at(0, 0), at(0, 1)), open(3, at(2, 7), at(3, 7), at(3, 8)),
	}
	for _, slope := range []pt{at(0, 0), at(6, -6), at(m, -m), at(-m, m), at(0, 1)} {
		for _, knots := range [][]pt{two, three, ten} {
			list = append(list, fixFirst(open(3, knots...), slope), fixLast(open(4, knots...), slope), fixLast(fixFirst(open(5, knots...), slope), at(slope.Y, 2)))
		}
	}
	return list
}

// badCurves returns curves that are not valid, for each reason.
func badCurves() []curve {
	two, three := []pt{at(0, 0), at(3, 0)}, []pt{at(0, 0), at(10, 0), at(0, 10)}
	list := []curve{
		{}, open(3), open(3, at(0, 0)), closed(3), closed(3, at(0, 0)), closed(3, two...), open(3, inRow(11)...), closed(3, inRow(11)...), open(3, inRow(1000)...),
		open(3, at(1, 2), at(1, 2)), open(3, at(0, 0), at(0, 0), at(1, 1)), open(3, at(0, 0), at(1, 1), at(1, 1)), open(3, at(0, 0), at(1, 1), at(1, 1), at(2, 2)),
		closed(3, at(0, 0), at(1, 1), at(0, 0)), closed(3, at(0, 0), at(0, 0), at(1, 1)), closed(3, at(0, 0), at(1, 1), at(1, 1)), closed(3, at(0, 0), at(1, 0), at(1, 1), at(0, 0)),
		fixFirst(closed(3, three...), at(0, 0)), fixLast(closed(3, three...), at(0, 0)), fixFirst(closed(3, three...), at(1, 0)), fixLast(closed(3, three...), at(0, 1)),
		fixLast(fixFirst(closed(3, three...), at(0, 0)), at(0, 0)),
	}
	for _, tension := range []int64{2, 13, 0, -3, math.MaxInt64, math.MinInt64} {
		list = append(list, open(tension, two...), closed(tension, three...), fixFirst(open(tension, two...), at(1, 1)))
	}
	for _, bad := range badPts() {
		list = append(list, open(3, bad, at(0, 0)), open(3, at(0, 0), bad), open(3, at(0, 0), bad, at(1, 1)), closed(3, bad, at(0, 0), at(1, 1)), closed(3, at(0, 0), at(1, 1), bad),
			fixFirst(open(3, two...), bad), fixLast(open(3, two...), bad), fixFirst(fixLast(open(3, three...), at(1, 1)), bad), fixLast(fixFirst(open(3, three...), at(1, 1)), bad))
	}
	for _, slope := range append(badPts(), at(1, 0), at(0, -1), at(5, 5)) {
		list = append(list, curve{Knots: two, Tension: 3, First: slope}, curve{Knots: two, Tension: 3, Last: slope},
			curve{Knots: two, Tension: 3, FixLast: true, First: slope}, curve{Knots: two, Tension: 3, FixFirst: true, Last: slope},
			curve{Knots: three, Tension: 3, Closed: true, First: slope}, curve{Knots: three, Tension: 3, Closed: true, Last: slope})
	}
	return list
}

// curveIsValid tells what the document says, for curves of any kind.
func curveIsValid(c curve) bool {
	n, least := len(c.Knots), map[bool]int{false: 2, true: 3}[c.Closed]
	if n < least || n > 10 || c.Tension < 3 || c.Tension > 12 || c.Closed && (c.FixFirst || c.FixLast) {
		return false
	}
	for i, p := range append(slices.Clone(c.Knots), c.First, c.Last) {
		if p.X < -262144 || p.X > 262144 || p.Y < -262144 || p.Y > 262144 || i > 0 && i < n && p == c.Knots[i-1] {
			return false
		}
	}
	return !(c.Closed && c.Knots[0] == c.Knots[n-1]) && (c.FixFirst || c.First == at(0, 0)) && (c.FixLast || c.Last == at(0, 0))
}

// randomCurve returns a valid curve of any kind and size.
func randomCurve(random *rand.Rand) curve {
	for {
		c := curve{Tension: random.Int63n(10) + 3, Closed: random.Intn(3) == 0}
		limit := int64(1) << min(18, random.Intn(24))
		place := func() pt { return at(random.Int63n(2*limit+1)-limit, random.Int63n(2*limit+1)-limit) }
		for range random.Intn(9) + 2 {
			c.Knots = append(c.Knots, place())
		}
		if !c.Closed && random.Intn(2) == 0 {
			c = fixFirst(c, place())
		}
		if !c.Closed && random.Intn(2) == 0 {
			c = fixLast(c, place())
		}
		if curveIsValid(c) {
			return c
		}
	}
}

// manyCurves returns the valid curves of this file and random ones.
func manyCurves(count int) []curve {
	random, list := fixedRandom(), goodCurves()
	for range count {
		list = append(list, randomCurve(random))
	}
	return list
}

func TestCurveConstants(t *testing.T) {
	check(t, "limits", [3]int64{impl.MaxSpline, impl.MinTension, impl.MaxTension}, [3]int64{10, 3, 12})
}

func TestValidCurve(t *testing.T) {
	for _, c := range manyCurves(500) {
		check(t, show("ValidCurve", c), impl.ValidCurve(c), true)
	}
	for _, c := range badCurves() {
		check(t, show("ValidCurve", c), impl.ValidCurve(c), false)
	}
}

// TestValidCurveChanged changes one thing of valid curves, which often makes them invalid.
func TestValidCurveChanged(t *testing.T) {
	found, random := map[bool]int{}, fixedRandom()
	for _, c := range manyCurves(3000) {
		c.Knots = slices.Clone(c.Knots)
		switch random.Intn(7) {
		case 0:
			c.Knots[random.Intn(len(c.Knots))] = c.Knots[random.Intn(len(c.Knots))]
		case 1:
			c.Closed = !c.Closed
		case 2:
			c.FixFirst = !c.FixFirst
		case 3:
			c.FixLast = !c.FixLast
		case 4:
			c.Tension += random.Int63n(11) - 5
		case 5:
			c.Knots = c.Knots[:len(c.Knots)-1]
		default:
			c.First.X += random.Int63n(3) - 1
			c.Last.Y += random.Int63n(3) - 1
		}
		want := curveIsValid(c)
		check(t, show("ValidCurve", c), impl.ValidCurve(c), want)
		found[want]++
	}
	if found[true] < 500 || found[false] < 500 {
		t.Errorf("too few curves of a kind: %v", found)
	}
}

func TestSameCurve(t *testing.T) {
	base := curve{Knots: []pt{at(0, 0), at(3, 0)}, Tension: 3, FixFirst: true, FixLast: true, First: at(1, 2), Last: at(3, 4)}
	list := []curve{base, {}}
	change := func(how func(c *curve)) {
		c := base
		c.Knots = slices.Clone(base.Knots)
		how(&c)
		list = append(list, c)
	}
	change(func(c *curve) { c.Knots[0] = at(1, 0) })
	change(func(c *curve) { c.Knots[1] = at(3, 1) })
	change(func(c *curve) { c.Knots = c.Knots[:1] })
	change(func(c *curve) { c.Knots = nil })
	change(func(c *curve) { c.Knots = append(c.Knots, at(0, 0)) })
	change(func(c *curve) { slices.Reverse(c.Knots) })
	change(func(c *curve) { c.Closed = true })
	change(func(c *curve) { c.Tension = 4 })
	change(func(c *curve) { c.FixFirst = false })
	change(func(c *curve) { c.FixLast = false })
	change(func(c *curve) { c.First = at(3, 4) })
	change(func(c *curve) { c.Last = at(1, 2) })
	change(func(c *curve) { c.First.Y = math.MinInt64 })
	for i, a := range list {
		for k, b := range list {
			b.Knots = slices.Clone(b.Knots)
			check(t, show("SameCurve", a, b), impl.SameCurve(a, b), i == k)
		}
	}
	check(t, "no knots", impl.SameCurve(curve{Knots: []pt{}}, curve{}), true)
	for _, bad := range badCurves() {
		check(t, show("SameCurve", bad), impl.SameCurve(bad, bad), true)
	}
}

// equationCase is one line of the document's table, for a curve.
type equationCase struct {
	what string
	c    curve
	k    int64
	row  []int64
	side pt
}

func equationCases() []equationCase {
	a, b, c, d := at(1, 10), at(4, 30), at(11, -7), at(100, 2)
	free, ring := open(3, a, b, c, d), closed(3, a, b, c, d)
	both := fixLast(fixFirst(free, at(5, 6)), at(-7, 8))
	corners := closed(3, at(impl.MaxCoord, -impl.MaxCoord), at(0, 0), at(-impl.MaxCoord, impl.MaxCoord))
	return []equationCase{
		{"free first", free, 0, []int64{2, 1, 0, 0}, at(9, 60)},
		{"second", free, 1, []int64{1, 4, 1, 0}, at(30, -51)},
		{"third", free, 2, []int64{0, 1, 4, 1}, at(288, -84)},
		{"free last", free, 3, []int64{0, 0, 1, 2}, at(267, 27)},
		{"fixed first", both, 0, []int64{1, 0, 0, 0}, at(5, 6)},
		{"second after a fixed one", both, 1, []int64{1, 4, 1, 0}, at(30, -51)},
		{"third before a fixed one", both, 2, []int64{0, 1, 4, 1}, at(288, -84)},
		{"fixed last", both, 3, []int64{0, 0, 0, 1}, at(-7, 8)},
		{"only first fixed", fixFirst(free, at(5, 6)), 3, []int64{0, 0, 1, 2}, at(267, 27)},
		{"only last fixed", fixLast(free, at(5, 6)), 0, []int64{2, 1, 0, 0}, at(9, 60)},
		{"first fixed at 0", fixFirst(free, at(0, 0)), 0, []int64{1, 0, 0, 0}, at(0, 0)},
		{"last fixed at 0", fixLast(free, at(0, 0)), 3, []int64{0, 0, 0, 1}, at(0, 0)},
		{"closed first", ring, 0, []int64{4, 1, 0, 1}, at(-288, 84)},
		{"closed second", ring, 1, []int64{1, 4, 1, 0}, at(30, -51)},
		{"closed third", ring, 2, []int64{0, 1, 4, 1}, at(288, -84)},
		{"closed last", ring, 3, []int64{1, 0, 1, 4}, at(-30, 51)},
		{"three closed", closed(3, a, b, c), 1, []int64{1, 4, 1}, at(30, -51)},
		{"three open", open(3, a, b, c), 1, []int64{1, 4, 1}, at(30, -51)},
		{"two, first", open(3, a, b), 0, []int64{2, 1}, at(9, 60)},
		{"two, last", open(3, a, b), 1, []int64{1, 2}, at(9, 60)},
		{"two, first fixed", fixFirst(open(3, a, b), at(5, 6)), 0, []int64{1, 0}, at(5, 6)},
		{"two, last free", fixFirst(open(3, a, b), at(5, 6)), 1, []int64{1, 2}, at(9, 60)},
		{"two, first free", fixLast(open(3, a, b), at(5, 6)), 0, []int64{2, 1}, at(9, 60)},
		{"two, last fixed", fixLast(open(3, a, b), at(5, 6)), 1, []int64{0, 1}, at(5, 6)},
		{"greatest side", corners, 1, []int64{1, 4, 1}, at(-6*impl.MaxCoord, 6*impl.MaxCoord)},
		{"greatest slope", fixLast(open(3, a, b), at(impl.MaxCoord, -impl.MaxCoord)), 1, []int64{0, 1}, at(impl.MaxCoord, -impl.MaxCoord)},
	}
}

func TestCurveEquations(t *testing.T) {
	for _, c := range equationCases() {
		row, one := impl.CurveRow(c.c, c.k)
		side, two := impl.CurveSide(c.c, c.k)
		check(t, c.what, show(row, one, side, two), show(c.row, impl.OK, c.side, impl.OK))
	}
	for _, c := range goodCurves() {
		for _, k := range append(extremeNumbers(), -1, int64(len(c.Knots)), int64(len(c.Knots))+1) {
			if k >= 0 && k < int64(len(c.Knots)) {
				continue
			}
			row, one := impl.CurveRow(c, k)
			side, two := impl.CurveSide(c, k)
			check(t, show("equation", k, c), show(row, one, side, two), show([]int64{}, impl.ErrRange, pt{}, impl.ErrRange))
		}
	}
	for _, bad := range badCurves() {
		for _, k := range []int64{0, 1, -1, 11, math.MinInt64, math.MaxInt64} {
			row, one := impl.CurveRow(bad, k)
			side, two := impl.CurveSide(bad, k)
			check(t, show("equation", k, bad), show(row, one, side, two), show([]int64{}, impl.ErrInvalid, pt{}, impl.ErrInvalid))
		}
	}
}

// knot returns P(k) for any k of a closed curve.
func knot(c curve, k int) pt { return c.Knots[(k+2*len(c.Knots))%len(c.Knots)] }

// exactEquation returns the nonzero coefficients and the right-hand side of an equation, by the document's table.
func exactEquation(c curve, k int) (map[int]int64, pt) {
	n := len(c.Knots)
	three := func(p, q pt) pt { return at(3*(p.X-q.X), 3*(p.Y-q.Y)) }
	if c.Closed || 1 <= k && k <= n-2 {
		return map[int]int64{(k - 1 + n) % n: 1, k: 4, (k + 1) % n: 1}, three(knot(c, k+1), knot(c, k-1))
	}
	if k == 0 && c.FixFirst {
		return map[int]int64{0: 1}, c.First
	}
	if k == 0 {
		return map[int]int64{0: 2, 1: 1}, three(c.Knots[1], c.Knots[0])
	}
	if c.FixLast {
		return map[int]int64{n - 1: 1}, c.Last
	}
	return map[int]int64{n - 2: 1, n - 1: 2}, three(c.Knots[n-1], c.Knots[n-2])
}

// exactRows returns all coefficients and right-hand sides.
func exactRows(c curve) ([][]int64, []pt) {
	rows, sides := make([][]int64, len(c.Knots)), make([]pt, len(c.Knots))
	for k := range rows {
		coefs, side := exactEquation(c, k)
		rows[k], sides[k] = make([]int64, len(c.Knots)), side
		for i, n := range coefs {
			rows[k][i] = n
		}
	}
	return rows, sides
}

func TestCurveEquationsRandom(t *testing.T) {
	for _, c := range manyCurves(1000) {
		rows, sides := exactRows(c)
		for k := range c.Knots {
			row, one := impl.CurveRow(c, int64(k))
			side, two := impl.CurveSide(c, int64(k))
			check(t, show("equation", k, c), show(row, one, side, two), show(rows[k], impl.OK, sides[k], impl.OK))
		}
	}
}

// determinant expands a matrix along its first row.
func determinant(rows [][]int64) *big.Int {
	if len(rows) == 0 {
		return big.NewInt(1)
	}
	sum := new(big.Int)
	for i, n := range rows[0] {
		if n == 0 {
			continue
		}
		var rest [][]int64
		for _, row := range rows[1:] {
			rest = append(rest, append(slices.Clone(row[:i]), row[i+1:]...))
		}
		part := new(big.Int).Mul(big.NewInt(n), determinant(rest))
		if i%2 == 1 {
			part.Neg(part)
		}
		sum.Add(sum, part)
	}
	return sum
}

func TestCurveScale(t *testing.T) {
	free := []int64{3, 12, 45, 168, 627, 2340, 8733, 32592, 121635}
	oneFixed := []int64{2, 7, 26, 97, 362, 1351, 5042, 18817, 70226}
	bothFixed := []int64{1, 4, 15, 56, 209, 780, 2911, 10864, 40545}
	ring := map[int]int64{3: 54, 4: 192, 5: 726, 6: 2700, 7: 10086, 8: 37632, 9: 140454, 10: 524172}
	for i := range free {
		c := open(3, inRow(i+2)...)
		first, last := fixFirst(c, at(5, 6)), fixLast(c, at(7, 8))
		kinds := []struct {
			c    curve
			want int64
		}{{c, free[i]}, {first, oneFixed[i]}, {last, oneFixed[i]}, {fixLast(first, at(7, 8)), bothFixed[i]}}
		if i > 0 {
			kinds = append(kinds, kinds[0])
			kinds[4].c.Closed, kinds[4].want = true, ring[i+2]
		}
		for _, kind := range kinds {
			got, code := impl.CurveScale(kind.c)
			check(t, show("CurveScale", kind.c), show(got, code), show(kind.want, impl.OK))
		}
	}
	for _, c := range manyCurves(300) {
		rows, _ := exactRows(c)
		got, code := impl.CurveScale(c)
		check(t, show("CurveScale", c), show(got, code), show(determinant(rows).Int64(), impl.OK))
		check(t, show("positive", c), got > 0, true)
	}
	for _, bad := range badCurves() {
		got, code := impl.CurveScale(bad)
		check(t, show("CurveScale", bad), show(got, code), show(0, impl.ErrInvalid))
	}
}

func TestCurveSlopes(t *testing.T) {
	cases := []struct {
		what   string
		c      curve
		xs, ys []int64
	}{
		{"a line", open(3, at(0, 0), at(3, 0)), []int64{9, 9}, []int64{0, 0}},
		{"a longer line", open(9, at(1, 2), at(2, 4), at(3, 6)), []int64{12, 12, 12}, []int64{24, 24, 24}},
		{"a corner", open(3, at(0, 0), at(4, 0), at(4, 8)), []int64{60, 24, -12}, []int64{-24, 48, 120}},
		{"a closed curve", closed(3, at(0, 0), at(10, 0), at(0, 10)), []int64{540, 0, -540}, []int64{-540, 540, 0}},
		{"a first slope", fixFirst(open(3, at(0, 0), at(9, 0)), at(0, 6)), []int64{0, 27}, []int64{12, -6}},
		{"a last slope", fixLast(open(3, at(0, 0), at(9, 0)), at(0, 6)), []int64{27, 0}, []int64{-6, 12}},
		{"a first slope of 0", fixFirst(open(3, at(0, 0), at(9, 0)), at(0, 0)), []int64{0, 27}, []int64{0, 0}},
		{"both slopes", fixLast(fixFirst(open(3, at(0, 0), at(9, 0)), at(5, 6)), at(-7, 8)), []int64{5, -7}, []int64{6, 8}},
		{"both slopes and a knot", fixLast(fixFirst(open(3, at(0, 0), at(9, 0), at(18, 3)), at(5, 6)), at(-7, 8)), []int64{20, 56, -28}, []int64{24, -5, 32}},
	}
	for _, c := range cases {
		xs, ys, code := impl.CurveSlopes(c.c)
		check(t, c.what, show(xs, ys, code), show(c.xs, c.ys, impl.OK))
	}
	for _, bad := range badCurves() {
		xs, ys, code := impl.CurveSlopes(bad)
		check(t, show("CurveSlopes", bad), show(xs, ys, code), show([]int64{}, []int64{}, impl.ErrInvalid))
	}
}

// solves reports whether numbers times rows are scale times the wanted ones.
func solves(rows [][]int64, numbers []int64, scale *big.Int, want func(k int) int64) bool {
	for k, row := range rows {
		sum := new(big.Int)
		for i, n := range row {
			sum.Add(sum, new(big.Int).Mul(big.NewInt(n), big.NewInt(numbers[i])))
		}
		if sum.Cmp(new(big.Int).Mul(scale, big.NewInt(want(k)))) != 0 {
			return false
		}
	}
	return true
}

// TestSlopesSolve is the first half of promise 7: slopes solve their equations exactly, at the limits, too.
func TestSlopesSolve(t *testing.T) {
	list := manyCurves(2000)
	for n := 3; n <= impl.MaxSpline; n++ {
		corners := zigzag(n)
		corners[n-1] = at(impl.MaxCoord, impl.MaxCoord)
		for _, slope := range []pt{at(impl.MaxCoord, impl.MaxCoord), at(-impl.MaxCoord, impl.MaxCoord)} {
			list = append(list, open(3, corners...), closed(3, corners...), fixFirst(open(3, corners...), slope), fixLast(open(3, corners...), slope), fixLast(fixFirst(open(3, corners...), slope), slope))
		}
	}
	for _, c := range list {
		rows, sides := exactRows(c)
		scale := determinant(rows)
		xs, ys, code := impl.CurveSlopes(c)
		if code != impl.OK || len(xs) != len(c.Knots) || len(ys) != len(c.Knots) {
			t.Fatalf("CurveSlopes(%v): got %v and %v with code %d", c, xs, ys, code)
		}
		check(t, show("X of slopes of ", c), solves(rows, xs, scale, func(k int) int64 { return sides[k].X }), true)
		check(t, show("Y of slopes of ", c), solves(rows, ys, scale, func(k int) int64 { return sides[k].Y }), true)
	}
}

func TestCurveCubics(t *testing.T) {
	const m = impl.MaxCoord
	cubic := func(a, b, c, d pt) impl.Cubic { return impl.Cubic{A: a, B: b, C: c, D: d} }
	o, e := at(0, 0), at(m, m)
	cases := []struct {
		what string
		c    curve
		want []impl.Cubic
		code int64
	}{
		{"example", open(3, o, at(3, 0)), []impl.Cubic{cubic(o, at(1, 0), at(2, 0), at(3, 0))}, impl.OK},
		{"tension", open(12, o, at(3, 0)), []impl.Cubic{cubic(o, o, at(3, 0), at(3, 0))}, impl.OK},
		{"halves are rounded before", open(6, o, at(3, -3)), []impl.Cubic{cubic(o, at(1, 0), at(2, -3), at(3, -3))}, impl.OK},
		{"halves that are rounded down", open(6, at(3, -3), o), []impl.Cubic{cubic(at(3, -3), at(3, -2), at(0, -1), o)}, impl.OK},
		{"fixed first", fixFirst(open(3, o, at(9, 0)), at(0, 6)), []impl.Cubic{cubic(o, at(0, 2), at(4, 1), at(9, 0))}, impl.OK},
		{"fixed last", fixLast(open(3, o, at(9, 0)), at(0, 6)), []impl.Cubic{cubic(o, at(5, -1), at(9, -2), at(9, 0))}, impl.OK},
		{"both fixed", fixLast(fixFirst(open(3, o, at(9, 0)), at(0, 6)), at(0, -6)), []impl.Cubic{cubic(o, at(0, 2), at(9, 2), at(9, 0))}, impl.OK},
		{"both fixed at 0", fixLast(fixFirst(open(3, o, at(9, 7)), o), o), []impl.Cubic{cubic(o, o, at(9, 7), at(9, 7))}, impl.OK},
		{"closed", closed(3, o, at(10, 0), at(0, 10)), []impl.Cubic{
			cubic(o, at(3, -3), at(10, -3), at(10, 0)), cubic(at(10, 0), at(10, 3), at(3, 10), at(0, 10)), cubic(at(0, 10), at(-3, 10), at(-3, 3), o)}, impl.OK},
		{"corner", open(3, o, at(4, 0), at(4, 8)), []impl.Cubic{cubic(o, at(2, -1), at(3, -1), at(4, 0)), cubic(at(4, 0), at(5, 1), at(4, 5), at(4, 8))}, impl.OK},
		{"B reaches the limit", fixFirst(open(3, at(m-1, 0), o), at(4, 0)), []impl.Cubic{cubic(at(m-1, 0), at(m, 0), at(131072, 0), o)}, impl.OK},
		{"B exceeds the limit", fixFirst(open(3, at(m-1, 0), o), at(5, 0)), nil, impl.ErrRange},
		{"B exceeds the limit by a half", fixFirst(open(4, e, o), at(2, 0)), nil, impl.ErrRange},
		{"B does not exceed the lower limit by a half", fixFirst(open(4, at(0, -m), o), at(0, -2)), []impl.Cubic{cubic(at(0, -m), at(0, -m), at(0, -98304), o)}, impl.OK},
		{"B exceeds the lower limit", fixFirst(open(4, at(0, -m), o), at(0, -3)), nil, impl.ErrRange},
		{"Y of B exceeds the limit", fixFirst(open(3, e, o), at(0, 2)), nil, impl.ErrRange},
		{"C does not exceed the limit by a half", fixLast(open(4, o, at(m, 0)), at(-2, 0)), []impl.Cubic{cubic(o, at(98304, 0), at(m, 0), at(m, 0))}, impl.OK},
		{"C exceeds the limit", fixLast(open(4, o, at(m, 0)), at(-3, 0)), nil, impl.ErrRange},
		{"C exceeds the lower limit by a half", fixLast(open(4, o, at(0, -m)), at(0, 2)), nil, impl.ErrRange},
		{"a later point exceeds the limit", open(3, o, at(1, 0), at(2, 0), e, at(m, 0)), nil, impl.ErrRange},
		{"only the last piece of a closed curve exceeds the limit", closed(3, at(m, 0), o, at(m, 9)), nil, impl.ErrRange},
		{"corners", closed(3, e, at(-m, m), at(-m, -m), at(m, -m)), nil, impl.ErrRange},
	}
	for _, c := range cases {
		got, code := impl.CurveCubics(c.c)
		check(t, c.what, show(got, code), show(c.want, c.code))
	}
	for _, bad := range badCurves() {
		got, code := impl.CurveCubics(bad)
		check(t, show("CurveCubics", bad), show(got, code), show([]impl.Cubic{}, impl.ErrInvalid))
	}
}

// eliminated solves equations by fractions.
func eliminated(rows [][]int64, want func(k int) int64) []*big.Rat {
	var s space
	for k, row := range rows {
		v := make([]*big.Rat, len(row)+1)
		for i, n := range row {
			v[i] = ratio(n, 1)
		}
		v[len(row)] = ratio(want(k), 1)
		s.add(v)
	}
	numbers := make([]*big.Rat, len(rows))
	for _, row := range s.rows {
		numbers[firstOf(row)] = row[len(rows)]
	}
	return numbers
}

// exactCubics returns the cubics by the document's rule with fractions of any size, and the code that is due.
func exactCubics(c curve) ([]impl.Cubic, int64) {
	rows, sides := exactRows(c)
	xs := eliminated(rows, func(k int) int64 { return sides[k].X })
	ys := eliminated(rows, func(k int) int64 { return sides[k].Y })
	step := func(r *big.Rat) int64 { return roundOf(new(big.Rat).Quo(r, ratio(c.Tension, 1))) }
	var list []impl.Cubic
	for k, a := range c.Knots {
		if k == len(c.Knots)-1 && !c.Closed {
			break
		}
		next := (k + 1) % len(c.Knots)
		d := c.Knots[next]
		piece := impl.Cubic{A: a, B: at(a.X+step(xs[k]), a.Y+step(ys[k])), C: at(d.X-step(xs[next]), d.Y-step(ys[next])), D: d}
		if !impl.ValidPt(piece.B) || !impl.ValidPt(piece.C) {
			return nil, impl.ErrRange
		}
		list = append(list, piece)
	}
	return list, impl.OK
}

// TestCurveCubicsExact is the second half of promise 7: the cubics lead from knot to knot, with the slopes that solve the equations.
func TestCurveCubicsExact(t *testing.T) {
	found := map[int64]int{}
	for _, c := range manyCurves(2000) {
		got, code := impl.CurveCubics(c)
		want, due := exactCubics(c)
		check(t, show("CurveCubics", c), show(got, code), show(want, due))
		found[due]++
		for k, piece := range got {
			check(t, show("begin of piece", k, c), piece.A, c.Knots[k])
			check(t, show("end of piece", k, c), piece.D, knot(c, k+1))
		}
	}
	if found[impl.OK] < 100 || found[impl.ErrRange] < 50 {
		t.Errorf("the curves of this test do not reach all codes: %v", found)
	}
}

// isNear reports whether both coordinates differ by at most some number.
func isNear(p, q pt, by int64) bool {
	return max(p.X-q.X, q.X-p.X, p.Y-q.Y, q.Y-p.Y) <= by
}

// secondDifference returns a - 2 b + c.
func secondDifference(a, b, c pt) pt { return at(a.X-2*b.X+c.X, a.Y-2*b.Y+c.Y) }

// TestCurvatures checks that a Tension of 3 makes both curvatures agree at each knot, and none at free ends, up to rounding.
func TestCurvatures(t *testing.T) {
	count := 0
	for _, c := range manyCurves(2000) {
		c.Tension = 3
		list, code := impl.CurveCubics(c)
		if code != impl.OK {
			continue
		}
		for k, piece := range list {
			if k+1 == len(list) && !c.Closed {
				break
			}
			next := list[(k+1)%len(list)]
			before, after := secondDifference(piece.B, piece.C, piece.D), secondDifference(next.A, next.B, next.C)
			check(t, show("curvatures behind piece", k, c), isNear(before, after, 3), true)
			count++
		}
		first, last := list[0], list[len(list)-1]
		if !c.Closed && !c.FixFirst {
			check(t, show("curvature of the first end", c), isNear(secondDifference(first.A, first.B, first.C), at(0, 0), 1), true)
		}
		if !c.Closed && !c.FixLast {
			check(t, show("curvature of the last end", c), isNear(secondDifference(last.B, last.C, last.D), at(0, 0), 1), true)
		}
	}
	if count < 1000 {
		t.Errorf("only %d knots", count)
	}
}

// negatives returns the opposite numbers in the other order.
func negatives(list []int64) []int64 {
	var opposite []int64
	for _, n := range slices.Backward(list) {
		opposite = append(opposite, -n)
	}
	return opposite
}

func TestReverseCurve(t *testing.T) {
	a, b, c := at(1, 2), at(3, 4), at(5, 7)
	cases := []struct{ from, to curve }{
		{open(3, a, b), open(3, b, a)}, {open(5, a, b, c), open(5, c, b, a)}, {closed(4, a, b, c), closed(4, c, b, a)},
		{fixFirst(open(3, a, b), at(6, -7)), fixLast(open(3, b, a), at(-6, 7))}, {fixLast(open(3, a, b), at(6, -7)), fixFirst(open(3, b, a), at(-6, 7))},
		{fixFirst(open(3, a, b), at(0, 0)), fixLast(open(3, b, a), at(0, 0))}, {fixLast(open(3, a, b), at(0, 0)), fixFirst(open(3, b, a), at(0, 0))},
		{fixLast(fixFirst(open(3, a, b, c), at(6, 7)), at(8, 9)), fixLast(fixFirst(open(3, c, b, a), at(-8, -9)), at(-6, -7))},
		{fixFirst(open(3, a, b), at(impl.MaxCoord, -impl.MaxCoord)), fixLast(open(3, b, a), at(-impl.MaxCoord, impl.MaxCoord))},
	}
	for _, c := range cases {
		got, code := impl.ReverseCurve(c.from)
		check(t, show("ReverseCurve", c.from), show(got, code), show(c.to, impl.OK))
	}
	for _, c := range manyCurves(1000) {
		reverse, one := impl.ReverseCurve(c)
		back, two := impl.ReverseCurve(reverse)
		check(t, show("twice", c), show(back, one, two), show(c, impl.OK, impl.OK))
		xs, ys, _ := impl.CurveSlopes(c)
		turnedX, turnedY, code := impl.CurveSlopes(reverse)
		check(t, show("slopes of the reverse of ", c), show(turnedX, turnedY, code), show(negatives(xs), negatives(ys), impl.OK))
	}
	for _, bad := range badCurves() {
		got, code := impl.ReverseCurve(bad)
		check(t, show("ReverseCurve", bad), show(got, code), show(curve{}, impl.ErrInvalid))
	}
}

func TestMoveCurve(t *testing.T) {
	const m = impl.MaxCoord
	a, b, c := at(1, 2), at(3, 4), at(5, 7)
	cases := []struct {
		what string
		c    curve
		by   pt
		want curve
		code int64
	}{
		{"open", open(3, a, b), at(10, -20), open(3, at(11, -18), at(13, -16)), impl.OK},
		{"closed", closed(7, a, b, c), at(-1, 0), closed(7, at(0, 2), at(2, 4), at(4, 7)), impl.OK},
		{"slopes are not moved", fixLast(fixFirst(open(3, a, b), at(6, 7)), at(m, -m)), at(1, 1), fixLast(fixFirst(open(3, at(2, 3), at(4, 5)), at(6, 7)), at(m, -m)), impl.OK},
		{"not at all", open(3, a, b, c), at(0, 0), open(3, a, b, c), impl.OK},
		{"from limit to limit", open(3, at(-m, m), at(0, 0)), at(m, -m), open(3, at(0, 0), at(m, -m)), impl.OK},
		{"from limit to limit and back", open(3, at(0, 0), at(m, -m)), at(-m, m), open(3, at(-m, m), at(0, 0)), impl.OK},
		{"X of the first knot", open(3, at(m, 0), at(0, 0)), at(1, 0), curve{}, impl.ErrRange},
		{"Y of the last knot", open(3, at(0, 0), at(0, -m)), at(0, -1), curve{}, impl.ErrRange},
		{"a knot between others", closed(3, a, at(0, m), b), at(0, 1), curve{}, impl.ErrRange},
		{"the greatest step", open(3, at(1, 0), at(0, 0)), at(m, 0), curve{}, impl.ErrRange},
	}
	for _, c := range cases {
		got, code := impl.MoveCurve(c.c, c.by)
		check(t, c.what, show(got, code), show(c.want, c.code))
	}
	for _, bad := range badCurves() {
		for _, by := range append(badPts(), at(0, 0), at(m, m), at(-m, 0)) {
			got, code := impl.MoveCurve(bad, by)
			check(t, show("MoveCurve", bad, by), show(got, code), show(curve{}, impl.ErrInvalid))
		}
	}
	for _, bad := range badPts() {
		for _, c := range goodCurves() {
			got, code := impl.MoveCurve(c, bad)
			check(t, show("MoveCurve", c, bad), show(got, code), show(curve{}, impl.ErrInvalid))
		}
	}
}

// TestCurvesMovedAndTurned checks that slopes neither depend on the place of a curve nor on the first knot of a closed one.
func TestCurvesMovedAndTurned(t *testing.T) {
	random := fixedRandom()
	found := map[string]int{}
	for _, c := range manyCurves(1000) {
		xs, ys, _ := impl.CurveSlopes(c)
		by := randomPt(random)
		if moved, code := impl.MoveCurve(c, by); code == impl.OK {
			movedX, movedY, code := impl.CurveSlopes(moved)
			check(t, show("slopes of moved ", c, by), show(movedX, movedY, code), show(xs, ys, impl.OK))
			found["moved"]++
		}
		if c.Closed {
			turned := closed(c.Tension, append(slices.Clone(c.Knots[1:]), c.Knots[0])...)
			turnedX, turnedY, code := impl.CurveSlopes(turned)
			check(t, show("slopes of turned ", c), show(turnedX, turnedY, code), show(append(xs[1:], xs[0]), append(ys[1:], ys[0]), impl.OK))
			found["turned"]++
		}
	}
	if found["moved"] < 100 || found["turned"] < 100 {
		t.Errorf("too few curves of a kind: %v", found)
	}
}

// wantedCurve reads a text of a curve by the rules of the document.
func wantedCurve(s string) (curve, bool) {
	const point = `(-?[0-9]{1,7},-?[0-9]{1,7})`
	match := regexp.MustCompile(`^(open|closed) ([0-9]{1,3})((?: ` + point + `)*)(?: first ` + point + `)?(?: last ` + point + `)?$`).FindStringSubmatch(s)
	if match == nil {
		return curve{}, false
	}
	tension, canonical := canonicalNumber(match[2])
	c := curve{Closed: match[1] == "closed", Tension: tension}
	pointOf := func(word string) pt {
		x, y, _ := strings.Cut(word, ",")
		left, one := canonicalNumber(x)
		right, two := canonicalNumber(y)
		canonical = canonical && one && two
		return at(left, right)
	}
	for _, word := range strings.Fields(match[3]) {
		c.Knots = append(c.Knots, pointOf(word))
	}
	if match[5] != "" {
		c = fixFirst(c, pointOf(match[5]))
	}
	if match[6] != "" {
		c = fixLast(c, pointOf(match[6]))
	}
	if !canonical || !curveIsValid(c) {
		return curve{}, false
	}
	return c, true
}

// canonicalNumber returns the number of some digits, and whether it is written like this.
func canonicalNumber(s string) (int64, bool) {
	n, err := strconv.ParseInt(s, 10, 64)
	return n, err == nil && strconv.FormatInt(n, 10) == s
}

// checkReadCurve holds ReadCurve against the rules, and CurveText against what is read.
func checkReadCurve(t *testing.T, s string) bool {
	t.Helper()
	got, ok := impl.ReadCurve(s)
	want, wanted := wantedCurve(s)
	check(t, fmt.Sprintf("ReadCurve(%.80q)", s), show(got, ok), show(want, wanted))
	if ok {
		check(t, fmt.Sprintf("CurveText of %.80q", s), impl.CurveText(got), s)
	}
	return ok
}

func TestCurveTexts(t *testing.T) {
	m := impl.MaxCoord
	cases := []struct {
		c    curve
		text string
	}{
		{open(3, at(0, 0), at(3, 0)), "open 3 0,0 3,0"}, {closed(12, at(0, 0), at(10, 0), at(0, -10)), "closed 12 0,0 10,0 0,-10"},
		{fixFirst(open(3, at(0, 0), at(9, 0)), at(0, 6)), "open 3 0,0 9,0 first 0,6"}, {fixLast(open(3, at(0, 0), at(9, 0)), at(0, -6)), "open 3 0,0 9,0 last 0,-6"},
		{fixLast(fixFirst(open(3, at(0, 0), at(9, 0)), at(1, 2)), at(3, 4)), "open 3 0,0 9,0 first 1,2 last 3,4"},
		{fixLast(fixFirst(open(3, at(0, 0), at(9, 0)), at(0, 0)), at(0, 0)), "open 3 0,0 9,0 first 0,0 last 0,0"},
		{open(3, inRow(10)...), "open 3 0,0 1,0 2,0 3,0 4,0 5,0 6,0 7,0 8,0 9,0"},
		{open(3, zigzag(2)...), fmt.Sprintf("open 3 %d,%d %d,%d", m, -m, -m, m)},
	}
	for _, c := range cases {
		check(t, "text", impl.CurveText(c.c), c.text)
		check(t, "is read: "+c.text, checkReadCurve(t, c.text), true)
	}
	for _, c := range manyCurves(2000) {
		got, ok := impl.ReadCurve(impl.CurveText(c))
		check(t, "ReadCurve "+impl.CurveText(c), show(got, ok), show(c, true))
	}
	for _, bad := range badCurves() {
		check(t, show("CurveText", bad), impl.CurveText(bad), "")
	}
}

func TestReadCurveOthers(t *testing.T) {
	for _, s := range append(oddTexts(), "open", "open 3", "open 3 0,0", "closed 3 0,0 1,1", "ring 3 0,0 1,1", "3 0,0 1,1", "0,0 1,1", "Open 3 0,0 1,1", "open 2 0,0 1,1", "open 13 0,0 1,1",
		"open 03 0,0 1,1", "open +3 0,0 1,1", "open x 0,0 1,1", "open 0,0 1,1", "open 3 0,0 0,0", "closed 3 0,0 1,1 0,0", "open 3 0,0 1,1 ", " open 3 0,0 1,1", "open  3 0,0 1,1", "open 3 0,0  1,1",
		"open 3 0,0 1,1\n", "open\t3 0,0 1,1", "open 3 0,0 1, 1", "open 3 0,0 1,1,1", "open 3 0,0 1", "open 3 0,0 -0,1", "open 3 0,0 01,1", "open 3 0,0 262145,1", "open 3 0,0 x 1,1",
		"open 3 0,0 1,1 first", "open 3 0,0 1,1 last", "open 3 0,0 1,1 first 1", "open 3 0,0 1,1 first x", "open 3 0,0 1,1 first 0,-0", "open 3 0,0 1,1 last 262145,0",
		"open 3 0,0 1,1 last 1,1 first 1,1", "open 3 0,0 1,1 first 1,1 first 1,1", "open 3 0,0 1,1 last 1,1 last 1,1", "open 3 0,0 1,1 first 1,1 2,2", "open 3 0,0 1,1 first 1,1 last",
		"open 3 first 1,1 0,0 1,1", "open 3 0,0 first 1,1 1,1", "open 3 0,0 1,1 first last 1,1", "open 3 0,0 1,1 last 1,1 x", "open 3 0,0 1,1 last 1,1 ", "closed 3 0,0 1,1 1,0 first 1,1", "closed 3 0,0 1,1 1,0 first 0,0",
		"closed 3 0,0 1,1 1,0 last 0,0", "open 3 0,0 1,1 First 1,1", "first 1,1", "open 3 0,0 1,1 \x00", "open 3 0,0 1,1 first 1,1 first", "open 3 0,0 1,1 last first",
		impl.CurveText(open(3, inRow(10)...))+" 10,0", "open 3"+strings.Repeat(" 0,0 1,1", 20000), strings.Repeat("open 3 ", 20000)) {
		check(t, fmt.Sprintf("is read: %.80q", s), checkReadCurve(t, s), false)
	}
}

// TestReadCurveCanonical changes texts of curves byte by byte, and word by word.
func TestReadCurveCanonical(t *testing.T) {
	const letters = " -,0123fo"
	read := 0
	try := func(s string) {
		if checkReadCurve(t, s) {
			read++
		}
	}
	for _, text := range []string{"open 3 0,0 3,0", "closed 12 0,0 10,0 0,-10", "open 3 0,0 9,0 first 0,6 last -1,2", "open 4 0,0 9,0 last 0,0"} {
		for i := range len(text) + 1 {
			for k := range letters {
				try(text[:i] + letters[k:k+1] + text[i:])
				try(text[:i] + letters[k:k+1] + text[min(i+1, len(text)):])
			}
			try(text[:i] + text[min(i+1, len(text)):])
			try(text[:i])
		}
		words := strings.Split(text, " ")
		for i := range words {
			try(strings.Join(append(slices.Clone(words[:i]), words[i+1:]...), " "))
			for _, other := range append([]string{"open", "closed", "first", "last", "1,1", "5", ""}, words...) {
				try(strings.Join(append(append(slices.Clone(words[:i]), other), words[i:]...), " "))
				try(strings.Join(append(append(slices.Clone(words[:i]), other), words[i+1:]...), " "))
			}
		}
	}
	if read < 100 {
		t.Errorf("only %d texts are read", read)
	}
}

// curveResults are what the functions of chapter 6 return for some arguments, valid or not.
type curveResults struct {
	curves      []curve
	row, xs, ys []int64
	side        pt
	scale       int64
	cubics      []impl.Cubic
	codes       []int64
	text        string
	flags       []bool
}

func curveResultsOf(c, other curve, k int64, by pt, text string) curveResults {
	row, one := impl.CurveRow(c, k)
	side, two := impl.CurveSide(c, k)
	scale, three := impl.CurveScale(c)
	xs, ys, four := impl.CurveSlopes(c)
	cubics, five := impl.CurveCubics(c)
	reverse, six := impl.ReverseCurve(c)
	moved, seven := impl.MoveCurve(c, by)
	read, ok := impl.ReadCurve(text)
	return curveResults{[]curve{reverse, moved, read}, row, xs, ys, side, scale, cubics, []int64{one, two, three, four, five, six, seven}, impl.CurveText(c),
		[]bool{ok, impl.ValidCurve(c), impl.SameCurve(c, other), impl.SameCurve(c, c)}}
}

// checkZero holds everything that comes with an error to be 0.
func (r curveResults) checkZero(t *testing.T) {
	t.Helper()
	zero := []bool{len(r.row) == 0, r.side == pt{}, r.scale == 0, len(r.xs)+len(r.ys) == 0, len(r.cubics) == 0, show(r.curves[0]) == show(curve{}), show(r.curves[1]) == show(curve{})}
	for i, code := range r.codes {
		if code != impl.OK && !zero[i] {
			t.Errorf("result %d is not 0 though the code is %d: %+v", i, code, r)
		}
	}
	if !r.flags[0] {
		check(t, "curve with false", show(r.curves[2]), show(curve{}))
	}
}

// TestCurvesTotal is promise 1 for chapter 6: all functions return for all arguments, twice alike.
func TestCurvesTotal(t *testing.T) {
	random := fixedRandom()
	curves, points, numbers := append(badCurves(), manyCurves(50)...), append(badPts(), cornerPts()...), extremeNumbers()
	texts := append(oddTexts(), "open 3 0,0 1,1", "closed 3 0,0 1,1 1,0", "open 3 0,0 1,1 first 0,0", "open 3 0,0 1,1 last")
	wild := func() curve {
		c := curve{Knots: slices.Repeat([]pt{{}}, random.Intn(12)), Tension: numbers[random.Intn(len(numbers))], Closed: random.Intn(2) == 0, FixFirst: random.Intn(2) == 0, FixLast: random.Intn(2) == 0}
		for _, p := range []*pt{&c.First, &c.Last} {
			*p = points[random.Intn(len(points))]
		}
		for i := range c.Knots {
			c.Knots[i] = points[random.Intn(len(points))]
		}
		return c
	}
	endless := curve{Knots: make([]pt, 1000000), Tension: 3}
	for i := range 5000 {
		c, other := curves[random.Intn(len(curves))], curves[random.Intn(len(curves))]
		if i%2 == 0 {
			c = wild()
		}
		if i == 0 {
			c = endless
		}
		k, by, text := numbers[random.Intn(len(numbers))], points[random.Intn(len(points))], texts[random.Intn(len(texts))]
		first := curveResultsOf(c, other, k, by, text)
		first.checkZero(t)
		if show(first) != show(curveResultsOf(c, other, k, by, text)) {
			t.Fatal("equal arguments have different results: ", c, other, k, by, text)
		}
	}
}

// roomyCurve returns a curve with the same knots, behind which there is room that is not empty.
func roomyCurve(c curve) curve {
	list := slices.Repeat([]pt{at(77, 77)}, len(c.Knots)+30)
	copy(list, c.Knots)
	c.Knots = list[:len(c.Knots)]
	return c
}

// overwrite sets all memory of a slice.
func overwrite[T any](list []T, value T) {
	for i := range list[:cap(list)] {
		list[:cap(list)][i] = value
	}
}

// TestCurvesKeepArguments is promise 1 for the memory of arguments and results.
func TestCurvesKeepArguments(t *testing.T) {
	for _, original := range append(manyCurves(200), badCurves()...) {
		c := roomyCurve(original)
		memory := func() string { return show(c, c.Knots[:cap(c.Knots)]) }
		before := memory()
		first := curveResultsOf(c, c, 1, at(1, -1), "open 3 0,0 1,1")
		shown := show(first)
		check(t, "arguments after all calls", memory(), before)
		ys := show(first.ys)
		overwrite(first.row, 55)
		overwrite(first.xs, 55)
		check(t, "the other slopes after the first ones are overwritten", show(first.ys), ys)
		overwrite(first.ys, 55)
		overwrite(first.cubics, impl.Cubic{A: at(55, 55)})
		for _, result := range first.curves {
			overwrite(result.Knots, at(55, 55))
		}
		check(t, "arguments after results are overwritten", memory(), before)
		check(t, "all results again", show(curveResultsOf(c, c, 1, at(1, -1), "open 3 0,0 1,1")), shown)
	}
}
