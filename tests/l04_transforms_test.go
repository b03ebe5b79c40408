package tests

import (
	"fmt"
	"math"
	"math/big"
	"math/rand"
	"slices"
	"strings"
	"testing"

	"loop.example/g00883/impl"
)

type affine = impl.Affine

// mapOf returns the map with the parts in the order of its text.
func mapOf(l [6]frac) affine {
	return affine{XX: l[0], XY: l[1], YX: l[2], YY: l[3], DX: l[4], DY: l[5]}
}

func partsOf(m affine) [6]frac { return [6]frac{m.XX, m.XY, m.YX, m.YY, m.DX, m.DY} }

// whole returns the map whose parts are integers.
func whole(l ...int64) affine {
	var parts [6]frac
	for i := range parts {
		parts[i] = q(l[i], 1)
	}
	return mapOf(parts)
}

// randomMap returns a valid map with parts of any size: most products of small ones exist, and few of great ones.
func randomMap(random *rand.Rand) affine {
	var parts [6]frac
	top, bottom := int64(1)<<random.Intn(20), int64(1)<<random.Intn(8)
	for i := range parts {
		for parts[i].Den == 0 {
			parts[i], _ = impl.MakeFrac(random.Int63n(2*top+1)-top, random.Int63n(bottom)+1)
		}
	}
	return mapOf(parts)
}

// badMaps returns maps of which one part is not valid; the others are small, or so great that products of them do not exist.
func badMaps() []affine {
	const most = impl.MaxNum
	var list []affine
	for i := range 6 {
		for _, bad := range badFracs() {
			for _, m := range []affine{whole(1, 2, 3, 4, 5, 6), whole(most, most, most, most, most, most)} {
				parts := partsOf(m)
				parts[i] = bad
				list = append(list, mapOf(parts))
			}
		}
	}
	return append(list, affine{})
}

// steps computes with fractions and notes whether one of them was not valid.
type steps struct{ missing bool }

func (s *steps) step(r *big.Rat) *big.Rat {
	if _, code := fracOf(r); code != impl.OK {
		s.missing = true
	}
	return r
}

func (s *steps) times(a, b *big.Rat) *big.Rat { return s.step(new(big.Rat).Mul(a, b)) }

func (s *steps) plus(a, b *big.Rat) *big.Rat { return s.step(new(big.Rat).Add(a, b)) }

func (s *steps) over(a, b *big.Rat) *big.Rat { return s.step(new(big.Rat).Quo(a, b)) }

func (s *steps) products(a, b, c, d *big.Rat) *big.Rat { return s.plus(s.times(a, b), s.times(c, d)) }

// rats are the six numbers of a map.
type rats struct{ xx, xy, yx, yy, dx, dy *big.Rat }

func ratsOf(m affine) rats {
	return rats{rat(m.XX), rat(m.XY), rat(m.YX), rat(m.YY), rat(m.DX), rat(m.DY)}
}

// result returns the map with these numbers, and the code that is due.
func (s *steps) result(r rats) (affine, int64) {
	if s.missing {
		return affine{}, impl.ErrRange
	}
	var parts [6]frac
	for i, n := range []*big.Rat{r.xx, r.xy, r.yx, r.yy, r.dx, r.dy} {
		parts[i], _ = fracOf(n)
	}
	return mapOf(parts), impl.OK
}

func exactThen(m, n affine) (affine, int64) {
	a, b, s := ratsOf(m), ratsOf(n), &steps{}
	return s.result(rats{
		s.products(b.xx, a.xx, b.xy, a.yx), s.products(b.xx, a.xy, b.xy, a.yy),
		s.products(b.yx, a.xx, b.yy, a.yx), s.products(b.yx, a.xy, b.yy, a.yy),
		s.plus(s.products(b.xx, a.dx, b.xy, a.dy), b.dx), s.plus(s.products(b.yx, a.dx, b.yy, a.dy), b.dy),
	})
}

func exactDeterminant(m affine) (frac, int64) {
	a, s := ratsOf(m), &steps{}
	d := s.products(a.xx, a.yy, new(big.Rat).Neg(a.xy), a.yx)
	if s.missing {
		return frac{}, impl.ErrRange
	}
	return fracOf(d)
}

func exactInvert(m affine) (affine, int64) {
	det, code := exactDeterminant(m)
	if code != impl.OK {
		return affine{}, code
	}
	if det.Num == 0 {
		return affine{}, impl.ErrState
	}
	a, d, s, minus := ratsOf(m), rat(det), &steps{}, func(r *big.Rat) *big.Rat { return new(big.Rat).Neg(r) }
	r := rats{s.over(a.yy, d), s.over(minus(a.xy), d), s.over(minus(a.yx), d), s.over(a.xx, d), nil, nil}
	r.dx = minus(s.products(r.xx, a.dx, r.xy, a.dy))
	r.dy = minus(s.products(r.yx, a.dx, r.yy, a.dy))
	return s.result(r)
}

func exactApply(m affine, p pt) (pt, int64) {
	a, s, x, y := ratsOf(m), &steps{}, ratio(p.X, 1), ratio(p.Y, 1)
	to := at(roundOf(s.plus(s.products(a.xx, x, a.xy, y), a.dx)), roundOf(s.plus(s.products(a.yx, x, a.yy, y), a.dy)))
	if s.missing || max(to.X, -to.X) > impl.MaxCoord || max(to.Y, -to.Y) > impl.MaxCoord {
		return pt{}, impl.ErrRange
	}
	return to, impl.OK
}

func checkMap(t *testing.T, what string, got affine, code int64, want affine, due int64) {
	t.Helper()
	if got != want || code != due {
		t.Errorf("%s: got %v with code %d, want %v with code %d", what, got, code, want, due)
	}
}

func checkApply(t *testing.T, m affine, p, want pt, due int64) {
	t.Helper()
	if got, code := impl.ApplyMap(m, p); got != want || code != due {
		t.Errorf("ApplyMap(%v, %v): got %v with code %d, want %v with code %d", m, p, got, code, want, due)
	}
}

func TestSimpleMaps(t *testing.T) {
	check(t, "identity", impl.IdentityMap(), whole(1, 0, 0, 1, 0, 0))
	for _, f := range someFracs(fixedRandom(), 50) {
		for _, g := range []frac{q(0, 1), q(-7, 2), f} {
			parts := [...]struct {
				what  string
				parts [6]frac
				of    func() (affine, int64)
			}{
				{"MoveMap", [6]frac{q(1, 1), q(0, 1), q(0, 1), q(1, 1), f, g}, func() (affine, int64) { return impl.MoveMap(f, g) }},
				{"ScaleMap", [6]frac{f, q(0, 1), q(0, 1), g, q(0, 1), q(0, 1)}, func() (affine, int64) { return impl.ScaleMap(f, g) }},
				{"SlantMap", [6]frac{q(1, 1), f, q(0, 1), q(1, 1), q(0, 1), q(0, 1)}, func() (affine, int64) { return impl.SlantMap(f) }},
			}
			for _, c := range parts {
				m, code := c.of()
				checkMap(t, fmt.Sprint(c.what, f, g), m, code, mapOf(c.parts), impl.OK)
			}
		}
	}
	for _, bad := range badFracs() {
		for _, pair := range [][2]frac{{bad, q(1, 1)}, {q(1, 1), bad}, {bad, bad}} {
			m, code := impl.MoveMap(pair[0], pair[1])
			checkMap(t, fmt.Sprint("MoveMap", pair), m, code, affine{}, impl.ErrInvalid)
			m, code = impl.ScaleMap(pair[0], pair[1])
			checkMap(t, fmt.Sprint("ScaleMap", pair), m, code, affine{}, impl.ErrInvalid)
		}
		m, code := impl.SlantMap(bad)
		checkMap(t, fmt.Sprint("SlantMap", bad), m, code, affine{}, impl.ErrInvalid)
	}
}

func TestQuarterMap(t *testing.T) {
	turns := []affine{whole(1, 0, 0, 1, 0, 0), whole(0, -1, 1, 0, 0, 0), whole(-1, 0, 0, -1, 0, 0), whole(0, 1, -1, 0, 0, 0)}
	points := []pt{at(3, 10), at(-10, 3), at(-3, -10), at(10, -3)}
	for k := int64(-9); k <= 9; k++ {
		i := (k + 12) % 4
		check(t, fmt.Sprintf("QuarterMap(%d)", k), impl.QuarterMap(k), turns[i])
		checkApply(t, impl.QuarterMap(k), at(3, 10), points[i], impl.OK)
	}
	for k, i := range map[int64]int{math.MinInt64: 0, math.MinInt64 + 1: 1, math.MaxInt64: 3, math.MaxInt64 - 1: 2, 1 << 40: 0, -1<<40 - 1: 3} {
		check(t, fmt.Sprintf("QuarterMap(%d)", k), impl.QuarterMap(k), turns[i])
	}
}

func TestValidAffine(t *testing.T) {
	random := fixedRandom()
	for range 200 {
		check(t, "ValidAffine", impl.ValidAffine(randomMap(random)), true)
	}
	for _, f := range someFracs(random, 0) {
		for i := range 6 {
			parts := partsOf(impl.IdentityMap())
			parts[i] = f
			check(t, fmt.Sprint("ValidAffine", parts), impl.ValidAffine(mapOf(parts)), true)
		}
	}
	for _, m := range badMaps() {
		check(t, fmt.Sprint("ValidAffine", m), impl.ValidAffine(m), false)
	}
}

func TestThenMap(t *testing.T) {
	const most = impl.MaxNum
	slant, _ := impl.SlantMap(q(1, 4))
	move, _ := impl.MoveMap(q(1, 2), q(-7, 1))
	cases := []struct {
		what string
		a, b affine
		want affine
		code int64
	}{
		{"slant, then move", slant, move, mapOf([6]frac{q(1, 1), q(1, 4), q(0, 1), q(1, 1), q(1, 2), q(-7, 1)}), impl.OK},
		{"move, then slant", move, slant, mapOf([6]frac{q(1, 1), q(1, 4), q(0, 1), q(1, 1), q(-5, 4), q(-7, 1)}), impl.OK},
		{"all parts", whole(2, 3, 5, 7, 11, 13), whole(17, 19, 23, 29, 31, 37), whole(129, 184, 191, 272, 465, 667), impl.OK},
		{"product out of range, the sum would not be", whole(2, 0, -2, 1, 0, 0), whole(most, most, 0, 1, 0, 0), affine{}, impl.ErrRange},
		{"product of a move out of range, the sum would not be", whole(1, 0, 0, 1, 2, -2), whole(most, most, 0, 1, 0, 0), affine{}, impl.ErrRange},
		{"sum of products out of range, the move back would not be", whole(1, 0, 0, 1, most, 1), whole(1, 1, 0, 1, -1, 0), affine{}, impl.ErrRange},
		{"sum with the move out of range", whole(1, 0, 0, 1, 0, most), whole(1, 0, 0, 1, 0, 1), affine{}, impl.ErrRange},
		{"reached sum", whole(1, 0, 0, 1, 0, most-1), whole(1, 0, 0, 1, 0, 1), whole(1, 0, 0, 1, 0, most), impl.OK},
		{"zeros and limits", whole(0, 0, 0, 0, 0, 0), whole(most, -most, most, -most, most, -most), whole(0, 0, 0, 0, most, -most), impl.OK},
		{"denominators", mapOf([6]frac{q(1, 1000), q(0, 1), q(0, 1), q(1, 1), q(0, 1), q(0, 1)}), mapOf([6]frac{q(1, 1001), q(0, 1), q(0, 1), q(1, 1), q(0, 1), q(0, 1)}), affine{}, impl.ErrRange},
	}
	for _, c := range cases {
		got, code := impl.ThenMap(c.a, c.b)
		checkMap(t, c.what, got, code, c.want, c.code)
	}
	// Each of the six parts may be the one that does not exist.
	for i, m := range []affine{whole(most, 0, 0, 0, 0, 0), whole(0, most, 0, 0, 0, 0), whole(0, 0, most, 0, 0, 0), whole(0, 0, 0, most, 0, 0), whole(0, 0, 0, 0, most, 0), whole(0, 0, 0, 0, 0, most)} {
		got, code := impl.ThenMap(m, whole(2, 0, 0, 2, 0, 0))
		checkMap(t, fmt.Sprint("part ", i), got, code, affine{}, impl.ErrRange)
	}
	checkInvalidThen(t)
}

func checkInvalidThen(t *testing.T) {
	t.Helper()
	great := whole(impl.MaxNum, impl.MaxNum, impl.MaxNum, impl.MaxNum, impl.MaxNum, impl.MaxNum)
	for _, bad := range badMaps() {
		for _, pair := range [][2]affine{{bad, impl.IdentityMap()}, {impl.IdentityMap(), bad}, {bad, bad}, {bad, great}, {great, bad}} {
			got, code := impl.ThenMap(pair[0], pair[1])
			checkMap(t, fmt.Sprint("ThenMap", pair), got, code, affine{}, impl.ErrInvalid)
		}
	}
}

// TestThenMapExact is the first half of promise 5: the exact composition, or ErrRange exactly if a fraction that is needed does not exist.
func TestThenMapExact(t *testing.T) {
	found := map[int64]int{}
	random := fixedRandom()
	for range 4000 {
		a, b, c := randomMap(random), randomMap(random), randomMap(random)
		got, code := impl.ThenMap(a, b)
		want, due := exactThen(a, b)
		checkMap(t, fmt.Sprint("ThenMap", a, b), got, code, want, due)
		found[due]++
		for _, m := range [][2]affine{{a, impl.IdentityMap()}, {impl.IdentityMap(), a}} {
			same, code := impl.ThenMap(m[0], m[1])
			checkMap(t, "with the identity", same, code, a, impl.OK)
		}
		checkAssociative(t, a, b, c)
	}
	if found[impl.OK] < 100 || found[impl.ErrRange] < 100 {
		t.Errorf("the maps of this test do not reach all codes: %v", found)
	}
}

func checkAssociative(t *testing.T, a, b, c affine) {
	t.Helper()
	first, one := impl.ThenMap(a, b)
	second, two := impl.ThenMap(b, c)
	left, three := impl.ThenMap(first, c)
	right, four := impl.ThenMap(a, second)
	if one == impl.OK && two == impl.OK && three == impl.OK && four == impl.OK {
		check(t, "ThenMap in another order", left, right)
	}
}

func TestDeterminantOf(t *testing.T) {
	const most = impl.MaxNum
	cases := []struct {
		what string
		m    affine
		want frac
		code int64
	}{
		{"identity", impl.IdentityMap(), q(1, 1), impl.OK},
		{"all parts", whole(2, 3, 5, 7, 11, 13), q(-1, 1), impl.OK},
		{"fractions", mapOf([6]frac{q(1, 2), q(1, 3), q(1, 5), q(1, 7), q(0, 1), q(0, 1)}), q(1, 210), impl.OK},
		{"mirror", whole(0, 1, 1, 0, 0, 0), q(-1, 1), impl.OK},
		{"no area", whole(2, 4, 3, 6, 1, 1), q(0, 1), impl.OK},
		{"reached product", whole(most, 0, 0, -1, most, most), q(-most, 1), impl.OK},
		{"first product out of range", whole(most, 0, 0, 2, 0, 0), frac{}, impl.ErrRange},
		{"second product out of range", whole(0, most, 2, 0, 0, 0), frac{}, impl.ErrRange},
		{"both products out of range, the difference would not be", whole(most, most, most, most, 0, 0), frac{}, impl.ErrRange},
		{"sum out of range", whole(most, -1, 1, 1, 0, 0), frac{}, impl.ErrRange},
	}
	for _, c := range cases {
		got, code := impl.DeterminantOf(c.m)
		checkFrac(t, c.what, got, code, c.want, c.code)
	}
	random := fixedRandom()
	for range 3000 {
		m := randomMap(random)
		got, code := impl.DeterminantOf(m)
		want, due := exactDeterminant(m)
		checkFrac(t, fmt.Sprint("DeterminantOf", m), got, code, want, due)
	}
	for _, bad := range badMaps() {
		got, code := impl.DeterminantOf(bad)
		checkFrac(t, fmt.Sprint("DeterminantOf", bad), got, code, frac{}, impl.ErrInvalid)
	}
}

func TestInvertMap(t *testing.T) {
	const most = impl.MaxNum
	cases := []struct {
		what string
		m    affine
		want affine
		code int64
	}{
		{"identity", impl.IdentityMap(), impl.IdentityMap(), impl.OK},
		{"slant and move", mapOf([6]frac{q(1, 1), q(1, 4), q(0, 1), q(1, 1), q(1, 2), q(-7, 1)}), mapOf([6]frac{q(1, 1), q(-1, 4), q(0, 1), q(1, 1), q(-9, 4), q(7, 1)}), impl.OK},
		{"all parts", whole(2, 3, 5, 7, 11, 13), whole(-7, 3, 5, -2, 38, -29), impl.OK},
		{"scale", whole(2, 0, 0, -4, 6, 8), mapOf([6]frac{q(1, 2), q(0, 1), q(0, 1), q(-1, 4), q(-3, 1), q(2, 1)}), impl.OK},
		{"no area", whole(2, 4, 3, 6, 1, 1), affine{}, impl.ErrState},
		{"all 0", whole(0, 0, 0, 0, 0, 0), affine{}, impl.ErrState},
		{"one scale 0", whole(2, 0, 0, 0, 0, 0), affine{}, impl.ErrState},
		{"determinant out of range, though it would be 0", whole(most, most, most, most, 0, 0), affine{}, impl.ErrRange},
		{"determinant out of range", whole(most, 0, 0, 2, 0, 0), affine{}, impl.ErrRange},
		{"quotient out of range", mapOf([6]frac{q(1, 1000), q(0, 1), q(0, 1), q(most, 1), q(0, 1), q(0, 1)}), affine{}, impl.ErrRange},
		{"product with the move out of range", mapOf([6]frac{q(1, 2), q(0, 1), q(0, 1), q(1, 1), q(most, 1), q(0, 1)}), affine{}, impl.ErrRange},
		{"sum with the move out of range", whole(1, -1, 0, 1, most, 1), affine{}, impl.ErrRange},
		{"reached move", whole(1, -1, 0, 1, most-1, 1), whole(1, 1, 0, 1, -most, -1), impl.OK},
	}
	for _, c := range cases {
		got, code := impl.InvertMap(c.m)
		checkMap(t, c.what, got, code, c.want, c.code)
	}
	for _, bad := range badMaps() {
		got, code := impl.InvertMap(bad)
		checkMap(t, fmt.Sprint("InvertMap", bad), got, code, affine{}, impl.ErrInvalid)
	}
}

// TestInvertMapExact is the second half of promise 5: a map and the map back are the identity in both orders.
func TestInvertMapExact(t *testing.T) {
	found := map[int64]int{}
	random := fixedRandom()
	for i := range 6000 {
		m := randomMap(random)
		if i%5 == 0 {
			// A map with two equal rows has no map back.
			m.YX, m.YY = m.XX, m.XY
		}
		got, code := impl.InvertMap(m)
		want, due := exactInvert(m)
		checkMap(t, fmt.Sprint("InvertMap", m), got, code, want, due)
		found[due]++
		if code != impl.OK {
			continue
		}
		for _, pair := range [][2]affine{{m, got}, {got, m}} {
			same, code := impl.ThenMap(pair[0], pair[1])
			if code == impl.OK {
				check(t, fmt.Sprint("map and back of ", m), same, impl.IdentityMap())
				found[-1]++
			}
		}
	}
	for _, code := range []int64{impl.OK, impl.ErrRange, impl.ErrState, -1} {
		if found[code] < 100 {
			t.Errorf("the maps of this test do not reach all codes: %v", found)
		}
	}
}

func TestApplyMap(t *testing.T) {
	const most, m = impl.MaxNum, impl.MaxCoord
	slant, _ := impl.SlantMap(q(1, 4))
	half, _ := impl.ScaleMap(q(1, 2), q(1, 2))
	moved := func(num, den int64) affine {
		result, _ := impl.MoveMap(q(num, den), q(-num, den))
		return result
	}
	cases := []struct {
		m    affine
		p    pt
		want pt
		code int64
	}{
		{slant, at(3, 10), at(6, 10), impl.OK}, {slant, at(-3, -10), at(-5, -10), impl.OK}, {slant, at(0, 1), at(0, 1), impl.OK}, {slant, at(0, 3), at(1, 3), impl.OK},
		{half, at(5, -5), at(3, -2), impl.OK}, {half, at(-1, 1), at(0, 1), impl.OK}, {half, at(m, -m), at(m/2, -m/2), impl.OK},
		{whole(2, 3, 5, 7, 11, 13), at(17, 19), at(102, 231), impl.OK}, {impl.IdentityMap(), at(m, -m), at(m, -m), impl.OK},
		{whole(1, 0, 0, 1, 1, 0), at(m-1, 0), at(m, 0), impl.OK}, {whole(1, 0, 0, 1, 1, 0), at(m, 0), pt{}, impl.ErrRange}, {whole(1, 0, 0, 1, 0, -1), at(0, -m), pt{}, impl.ErrRange},
		{moved(1, 3), at(m, 0), at(m, 0), impl.OK}, {moved(1, 2), at(m, 0), pt{}, impl.ErrRange}, {moved(1, 2), at(0, -m), at(1, -m), impl.OK}, {moved(2, 3), at(0, -m), pt{}, impl.ErrRange},
		{whole(most, 0, 0, 1, 0, 0), at(1, 0), pt{}, impl.ErrRange}, {whole(100000, 0, 0, 1, 0, 0), at(100000, 0), pt{}, impl.ErrRange},
		{whole(most, most, 0, 1, 0, 0), at(2, -2), pt{}, impl.ErrRange}, {whole(most, -most, 0, 1, 5, 0), at(1, 1), at(5, 1), impl.OK},
		{whole(most, most, 0, 1, -most, 0), at(1, 1), pt{}, impl.ErrRange}, {whole(most, 0, 0, 1, -most, 0), at(1, 1), at(0, 1), impl.OK},
		{whole(0, 0, most, most, 0, 0), at(2, -2), pt{}, impl.ErrRange}, {whole(0, 0, 0, 0, 7, 8), at(m, m), at(7, 8), impl.OK},
		{mapOf([6]frac{q(1, 999), q(1, 998), q(0, 1), q(1, 1), q(1, 997), q(0, 1)}), at(1, 1), pt{}, impl.ErrRange},
	}
	for _, c := range cases {
		checkApply(t, c.m, c.p, c.want, c.code)
	}
	for _, bad := range badMaps() {
		checkApply(t, bad, at(1, 1), pt{}, impl.ErrInvalid)
		checkApply(t, bad, at(m, m), pt{}, impl.ErrInvalid)
		checkApply(t, bad, at(m+1, 1), pt{}, impl.ErrInvalid)
	}
	for _, bad := range badPts() {
		checkApply(t, impl.IdentityMap(), bad, pt{}, impl.ErrInvalid)
		checkApply(t, whole(0, 0, 0, 0, 0, 0), bad, pt{}, impl.ErrInvalid)
		checkApply(t, whole(most, most, most, most, most, most), bad, pt{}, impl.ErrInvalid)
	}
}

// TestApplyMapExact compares with exact numbers, and mapping by a composition with mapping twice where nothing is rounded in between.
func TestApplyMapExact(t *testing.T) {
	found := map[int64]int{}
	random := fixedRandom()
	for range 6000 {
		a, b, p := randomMap(random), randomMap(random), randomPt(random)
		want, due := exactApply(a, p)
		checkApply(t, a, p, want, due)
		found[due]++
		for _, f := range []*frac{&a.XX, &a.XY, &a.YX, &a.YY, &a.DX, &a.DY} {
			f.Num, f.Den = f.Num%50, 1
		}
		both, one := impl.ThenMap(a, b)
		first, two := impl.ApplyMap(a, p)
		second, three := impl.ApplyMap(b, first)
		if got, code := impl.ApplyMap(both, p); one == impl.OK && two == impl.OK && three == impl.OK && code == impl.OK {
			check(t, fmt.Sprint("composition ", a, b, p), got, second)
			found[-1]++
		}
	}
	for _, code := range []int64{impl.OK, impl.ErrRange, -1} {
		if found[code] < 100 {
			t.Errorf("the maps of this test do not reach all codes: %v", found)
		}
	}
}

func TestMapTexts(t *testing.T) {
	check(t, "text of the identity", impl.MapText(impl.IdentityMap()), "1 0 0 1 0 0")
	check(t, "order of the parts", impl.MapText(mapOf([6]frac{q(1, 2), q(-3, 1), q(5, 7), q(-11, 13), q(17, 19), q(0, 1)})), "1/2 -3 5/7 -11/13 17/19 0")
	random := fixedRandom()
	for range 1000 {
		m := randomMap(random)
		got, ok := impl.ReadMap(impl.MapText(m))
		check(t, impl.MapText(m), got, m)
		check(t, impl.MapText(m), ok, true)
	}
	for _, m := range badMaps() {
		check(t, fmt.Sprint("MapText", m), impl.MapText(m), "")
	}
	for _, s := range append(oddTexts(), "1 0 0 1 0", "1 0 0 1 0 ", "1 0 0 1 0 0 ", " 1 0 0 1 0 0", "1 0 0 1 0 0 0", "1  0 0 1 0 0", "1 0 0 1 0  0", "1 0 0 1  0", "1 0 0 1 0\t0",
		"1 0 0 1 0 0\n", "1,0,0,1,0,0", "1 0 0 1 0 2/4", "2/1 0 0 1 0 0", "1 0 -0 1 0 0", "1 0 0 01 0 0", "+1 0 0 1 0 0", "1 0 0 1 0 1000000001", "1/1000001 0 0 1 0 0",
		"1 0 0 1 0 a", "1 0 0 1 0 1/", "1 0 x 1 0 0", "     ", "1 0 0 1 0 0 \x00", strings.Repeat("1 ", 50000)) {
		got, ok := impl.ReadMap(s)
		check(t, fmt.Sprintf("ReadMap(%.30q)", s), got, affine{})
		check(t, fmt.Sprintf("ReadMap(%.30q)", s), ok, false)
	}
}

// TestReadMapCanonical changes texts of maps byte by byte: whatever is read is written back alike.
func TestReadMapCanonical(t *testing.T) {
	const letters = " -/012,"
	for _, text := range []string{"1 0 0 1 0 0", "1/2 -3 5/7 -11/13 17/19 0"} {
		for i := range text {
			for k := range letters {
				for _, s := range []string{text[:i] + letters[k:k+1] + text[i:], text[:i] + letters[k:k+1] + text[i+1:], text[:i] + text[i+1:]} {
					m, ok := impl.ReadMap(s)
					if ok && impl.MapText(m) != s || !ok && m != (affine{}) {
						t.Errorf("ReadMap(%q) is %v and %v", s, m, ok)
					}
				}
			}
		}
	}
}

// mapResults returns what the functions of chapter 4 return for maps and a point, valid or not.
func mapResults(a, b affine, p pt) []any {
	then, one := impl.ThenMap(a, b)
	det, two := impl.DeterminantOf(a)
	back, three := impl.InvertMap(a)
	to, four := impl.ApplyMap(a, p)
	move, five := impl.MoveMap(a.XX, b.YY)
	scale, six := impl.ScaleMap(a.XY, b.YX)
	slant, seven := impl.SlantMap(a.DX)
	return []any{then, one, det, two, back, three, to, four, move, five, scale, six, slant, seven, impl.ValidAffine(a), impl.MapText(a), impl.QuarterMap(p.X), impl.IdentityMap()}
}

// TestMapsTotal is promise 1 for chapter 4: all functions return for all arguments, twice alike.
func TestMapsTotal(t *testing.T) {
	random := fixedRandom()
	fracs, numbers := append(badFracs(), someFracs(random, 20)...), extremeNumbers()
	number := func() int64 { return numbers[random.Intn(len(numbers))] }
	pick := func(of int) affine {
		var parts [6]frac
		for i := range parts {
			parts[i] = fracs[len(fracs)-1-random.Intn(of)]
			if random.Intn(20) == 0 && of == len(fracs) {
				parts[i] = frac{Num: number(), Den: number()}
			}
		}
		return mapOf(parts)
	}
	for i := range 20000 {
		of := len(fracs)
		if i%2 == 0 {
			of -= len(badFracs())
		}
		a, b, p := pick(of), pick(of), at(number(), number())
		if !slices.Equal(mapResults(a, b, p), mapResults(a, b, p)) {
			t.Fatal("equal arguments have different results: ", a, b, p)
		}
	}
}
