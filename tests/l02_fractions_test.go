package tests

import (
	"fmt"
	"math"
	"math/big"
	"math/rand"
	"slices"
	"strings"
	"testing"

	"loop.example/g00883/impl"
)

type frac = impl.Frac

func q(num, den int64) frac { return frac{Num: num, Den: den} }

// someFracs returns valid fractions: simple ones, those at the limits, and others.
func someFracs(random *rand.Rand, more int) []frac {
	list := []frac{q(0, 1), q(1, 1), q(-1, 1), q(1, 2), q(-1, 2), q(5, 2), q(-5, 2), q(1, 3), q(2, 3), q(-2, 3), q(7, 4), q(-7, 4),
		q(impl.MaxNum, 1), q(-impl.MaxNum, 1), q(1, impl.MaxDen), q(-1, impl.MaxDen), q(impl.MaxNum-1, impl.MaxDen), q(impl.MaxNum, impl.MaxDen-1),
		q(1-impl.MaxNum, impl.MaxDen), q(1, impl.MaxDen-1), q(999999999, 2), q(-999999999, 2), q(999999937, 999983)}
	for more > 0 {
		limit := int64(1) << random.Intn(31)
		f, code := impl.MakeFrac(random.Int63n(2*limit)-limit, random.Int63n(1<<random.Intn(20))+1)
		if code == impl.OK {
			list = append(list, f)
			more--
		}
	}
	return list
}

// badFracs returns fractions that are not valid: with a denominator that is not positive, not in lowest terms, or outside of a limit.
func badFracs() []frac {
	return []frac{{}, q(1, 0), q(1, -1), q(0, 2), q(0, -1), q(2, 4), q(-2, 4), q(2, 2), q(6, 3), q(1, impl.MaxDen+1), q(impl.MaxNum+1, 1), q(-impl.MaxNum-1, 1),
		q(math.MaxInt64, 1), q(math.MinInt64, 1), q(1, math.MaxInt64), q(1, math.MinInt64), q(math.MinInt64, math.MinInt64), q(impl.MaxNum, impl.MaxDen)}
}

func rat(f frac) *big.Rat { return big.NewRat(f.Num, f.Den) }

// fracOf returns the fraction with a value, and the code that is due.
func fracOf(r *big.Rat) (frac, int64) {
	if r.Denom().Cmp(big.NewInt(impl.MaxDen)) > 0 || new(big.Int).Abs(r.Num()).Cmp(big.NewInt(impl.MaxNum)) > 0 {
		return frac{}, impl.ErrRange
	}
	return frac{Num: r.Num().Int64(), Den: r.Denom().Int64()}, impl.OK
}

// floorOf returns the greatest integer that is not greater than r.
func floorOf(r *big.Rat) int64 {
	// Div of big.Int rounds down, since the denominator is positive.
	return new(big.Int).Div(r.Num(), r.Denom()).Int64()
}

func roundOf(r *big.Rat) int64 { return floorOf(new(big.Rat).Add(r, big.NewRat(1, 2))) }

func checkFrac(t *testing.T, what string, got frac, code int64, want frac, due int64) {
	t.Helper()
	if got != want || code != due {
		t.Errorf("%s: got %v with code %d, want %v with code %d", what, got, code, want, due)
	}
}

func TestValidFrac(t *testing.T) {
	check(t, "MaxDen", impl.MaxDen, 1000000)
	check(t, "MaxNum", impl.MaxNum, 1000000000)
	check(t, "MaxScaled", impl.MaxScaled, 1073741824)
	for _, f := range someFracs(fixedRandom(), 500) {
		check(t, fmt.Sprintf("ValidFrac(%v)", f), impl.ValidFrac(f), true)
	}
	for _, f := range badFracs() {
		check(t, fmt.Sprintf("ValidFrac(%v)", f), impl.ValidFrac(f), false)
	}
}

func TestValidFracSmall(t *testing.T) {
	for num := int64(-30); num <= 30; num++ {
		for den := int64(-30); den <= 30; den++ {
			want := den > 0 && big.NewRat(num, max(den, 1)).Denom().Int64() == den
			check(t, fmt.Sprintf("ValidFrac(%d/%d)", num, den), impl.ValidFrac(frac{Num: num, Den: den}), want)
		}
	}
}

func TestMakeFrac(t *testing.T) {
	cases := []struct {
		num, den int64
		want     frac
		code     int64
	}{
		{-2, -6, q(1, 3), impl.OK}, {2, -6, q(-1, 3), impl.OK}, {0, -7, q(0, 1), impl.OK}, {0, math.MinInt64, q(0, 1), impl.OK},
		{math.MinInt64, math.MinInt64, q(1, 1), impl.OK}, {math.MinInt64, 1 << 62, q(-2, 1), impl.OK}, {1 << 62, math.MinInt64, q(-1, 2), impl.OK},
		{math.MaxInt64, math.MaxInt64, q(1, 1), impl.OK}, {math.MaxInt64, -math.MaxInt64, q(-1, 1), impl.OK},
		{2000000000, 2, q(1000000000, 1), impl.OK}, {2, 2000000, q(1, 1000000), impl.OK},
		{0, 0, frac{}, impl.ErrInvalid}, {1, 0, frac{}, impl.ErrInvalid}, {math.MinInt64, 0, frac{}, impl.ErrInvalid}, {impl.MaxNum + 1, 0, frac{}, impl.ErrInvalid},
		{impl.MaxNum + 1, 1, frac{}, impl.ErrRange}, {-impl.MaxNum - 1, 1, frac{}, impl.ErrRange}, {1, impl.MaxDen + 1, frac{}, impl.ErrRange},
		{1, -impl.MaxDen - 1, frac{}, impl.ErrRange}, {math.MinInt64, -1, frac{}, impl.ErrRange}, {1, math.MinInt64, frac{}, impl.ErrRange},
		{math.MinInt64, 1, frac{}, impl.ErrRange}, {math.MinInt64, math.MaxInt64, frac{}, impl.ErrRange},
	}
	for _, c := range cases {
		got, code := impl.MakeFrac(c.num, c.den)
		checkFrac(t, fmt.Sprintf("MakeFrac(%d, %d)", c.num, c.den), got, code, c.want, c.code)
	}
}

func TestMakeFracExact(t *testing.T) {
	random := fixedRandom()
	try := func(num, den int64) {
		got, code := impl.MakeFrac(num, den)
		if den == 0 {
			checkFrac(t, fmt.Sprintf("MakeFrac(%d, 0)", num), got, code, frac{}, impl.ErrInvalid)
			return
		}
		want, due := fracOf(big.NewRat(num, den))
		checkFrac(t, fmt.Sprintf("MakeFrac(%d, %d)", num, den), got, code, want, due)
	}
	for _, num := range extremeNumbers() {
		for _, den := range extremeNumbers() {
			try(num, den)
		}
	}
	for range 3000 {
		factor := random.Int63n(1<<random.Intn(30)) + 1
		try(factor*(random.Int63n(1<<32)-1<<31), factor*(random.Int63n(1<<22)-1<<21))
	}
}

// operation is a function of two fractions and what it is to compute.
type operation struct {
	name  string
	apply func(a, b frac) (frac, int64)
	exact func(a, b *big.Rat) *big.Rat
}

func operations() []operation {
	return []operation{
		{"AddFrac", impl.AddFrac, func(a, b *big.Rat) *big.Rat { return new(big.Rat).Add(a, b) }},
		{"SubFrac", impl.SubFrac, func(a, b *big.Rat) *big.Rat { return new(big.Rat).Sub(a, b) }},
		{"MulFrac", impl.MulFrac, func(a, b *big.Rat) *big.Rat { return new(big.Rat).Mul(a, b) }},
		{"DivFrac", impl.DivFrac, func(a, b *big.Rat) *big.Rat { return new(big.Rat).Quo(a, b) }},
	}
}

// TestArithmeticExact is the first half of promise 3: the exact result, or ErrRange exactly if it would not be valid.
func TestArithmeticExact(t *testing.T) {
	for _, o := range operations() {
		found := map[int64]int{}
		list := someFracs(fixedRandom(), 120)
		for _, a := range list {
			for _, b := range list {
				got, code := o.apply(a, b)
				want, due := frac{}, int64(impl.ErrRange)
				if o.name != "DivFrac" || b.Num != 0 {
					want, due = fracOf(o.exact(rat(a), rat(b)))
				}
				checkFrac(t, fmt.Sprintf("%s(%v, %v)", o.name, a, b), got, code, want, due)
				found[due]++
			}
		}
		if found[impl.OK] == 0 || found[impl.ErrRange] == 0 {
			t.Errorf("%s: the fractions of this test do not reach all codes: %v", o.name, found)
		}
	}
}

func TestArithmeticLimits(t *testing.T) {
	most, least := q(impl.MaxNum, 1), q(1, impl.MaxDen)
	cases := []struct {
		what  string
		apply func(a, b frac) (frac, int64)
		a, b  frac
		want  frac
		code  int64
	}{
		{"reached sum", impl.AddFrac, q(impl.MaxNum-1, 1), q(1, 1), most, impl.OK},
		{"exceeded sum", impl.AddFrac, most, q(1, 1), frac{}, impl.ErrRange},
		{"reached difference", impl.SubFrac, q(1-impl.MaxNum, 1), q(1, 1), q(-impl.MaxNum, 1), impl.OK},
		{"exceeded difference", impl.SubFrac, q(-impl.MaxNum, 1), q(1, 1), frac{}, impl.ErrRange},
		{"reached product", impl.MulFrac, q(impl.MaxNum/2, 1), q(-2, 1), q(-impl.MaxNum, 1), impl.OK},
		{"exceeded product", impl.MulFrac, most, most, frac{}, impl.ErrRange},
		{"reached denominator", impl.MulFrac, q(1, 1000), q(1, 1000), least, impl.OK},
		{"exceeded denominator", impl.MulFrac, least, q(1, 2), frac{}, impl.ErrRange},
		{"product reduced to the limits", impl.MulFrac, most, least, q(1000, 1), impl.OK},
		{"reached quotient", impl.DivFrac, q(1000, 1), least, most, impl.OK},
		{"exceeded quotient", impl.DivFrac, q(1001, 1), least, frac{}, impl.ErrRange},
		{"quotient by a negative number", impl.DivFrac, q(1, 2), q(-3, 4), q(-2, 3), impl.OK},
		{"quotient by 0", impl.DivFrac, q(1, 2), q(0, 1), frac{}, impl.ErrRange},
		{"quotient of 0 by 0", impl.DivFrac, q(0, 1), q(0, 1), frac{}, impl.ErrRange},
		{"quotient by an invalid 0", impl.DivFrac, q(1, 2), q(0, 2), frac{}, impl.ErrInvalid},
		{"quotient of the zero value by 0", impl.DivFrac, frac{}, q(0, 1), frac{}, impl.ErrInvalid},
	}
	for _, c := range cases {
		got, code := c.apply(c.a, c.b)
		checkFrac(t, c.what, got, code, c.want, c.code)
	}
}

func TestInvalidFractions(t *testing.T) {
	good := q(1, 2)
	for _, bad := range badFracs() {
		for _, o := range operations() {
			for _, pair := range [][2]frac{{bad, good}, {good, bad}, {bad, bad}, {bad, q(0, 1)}, {bad, q(impl.MaxNum, 1)}, {q(impl.MaxNum, 1), bad}} {
				got, code := o.apply(pair[0], pair[1])
				checkFrac(t, fmt.Sprintf("%s%v", o.name, pair), got, code, frac{}, impl.ErrInvalid)
			}
		}
		for _, n := range []int64{0, 1, impl.MaxScaled, impl.MaxScaled + 1, -impl.MaxScaled - 1, math.MinInt64} {
			got, code := impl.ScaleFrac(n, bad)
			check(t, fmt.Sprintf("ScaleFrac(%d, %v)", n, bad), [2]int64{got, code}, [2]int64{0, impl.ErrInvalid})
		}
		check(t, fmt.Sprintf("CompareFrac(%v, 1/2)", bad), impl.CompareFrac(bad, good), 0)
		check(t, fmt.Sprintf("CompareFrac(1/2, %v)", bad), impl.CompareFrac(good, bad), 0)
		check(t, fmt.Sprintf("FloorFrac(%v)", bad), impl.FloorFrac(bad), 0)
		check(t, fmt.Sprintf("RoundFrac(%v)", bad), impl.RoundFrac(bad), 0)
		check(t, fmt.Sprintf("FracText(%v)", bad), impl.FracText(bad), "")
	}
}

func TestCompareFrac(t *testing.T) {
	list := someFracs(fixedRandom(), 120)
	for _, a := range list {
		for _, b := range list {
			check(t, fmt.Sprintf("CompareFrac(%v, %v)", a, b), impl.CompareFrac(a, b), int64(rat(a).Cmp(rat(b))))
		}
	}
	check(t, "neighbours", impl.CompareFrac(q(impl.MaxNum, impl.MaxDen-1), q(impl.MaxNum-1, impl.MaxDen)), 1)
}

// TestRounding is the second half of promise 3: the nearest integer, and the greater one of two.
func TestRounding(t *testing.T) {
	cases := []struct {
		f            frac
		floor, round int64
	}{
		{q(5, 2), 2, 3}, {q(-5, 2), -3, -2}, {q(1, 2), 0, 1}, {q(-1, 2), -1, 0}, {q(-3, 2), -2, -1}, {q(7, 3), 2, 2}, {q(8, 3), 2, 3},
		{q(-7, 3), -3, -2}, {q(-8, 3), -3, -3}, {q(0, 1), 0, 0}, {q(4, 1), 4, 4}, {q(-4, 1), -4, -4}, {q(1, impl.MaxDen), 0, 0},
		{q(-1, impl.MaxDen), -1, 0}, {q(499999, 1000000), 0, 0}, {q(500001, 1000000), 0, 1}, {q(-499999, 1000000), -1, 0},
		{q(-500001, 1000000), -1, -1}, {q(impl.MaxNum, 1), impl.MaxNum, impl.MaxNum}, {q(-impl.MaxNum, 1), -impl.MaxNum, -impl.MaxNum},
	}
	for _, c := range cases {
		check(t, fmt.Sprintf("FloorFrac(%v)", c.f), impl.FloorFrac(c.f), c.floor)
		check(t, fmt.Sprintf("RoundFrac(%v)", c.f), impl.RoundFrac(c.f), c.round)
	}
	for _, f := range someFracs(fixedRandom(), 2000) {
		check(t, fmt.Sprintf("FloorFrac(%v)", f), impl.FloorFrac(f), floorOf(rat(f)))
		check(t, fmt.Sprintf("RoundFrac(%v)", f), impl.RoundFrac(f), roundOf(rat(f)))
	}
}

func TestScaleFrac(t *testing.T) {
	random := fixedRandom()
	numbers := []int64{0, 1, -1, 2, 3, -3, 5, -5, 64, 1000, impl.MaxScaled, -impl.MaxScaled, impl.MaxScaled - 1}
	for range 40 {
		numbers = append(numbers, random.Int63n(2*impl.MaxScaled)-impl.MaxScaled)
	}
	for _, f := range someFracs(random, 150) {
		for _, n := range numbers {
			got, code := impl.ScaleFrac(n, f)
			want := roundOf(new(big.Rat).Mul(rat(f), big.NewRat(n, 1)))
			check(t, fmt.Sprintf("ScaleFrac(%d, %v)", n, f), [2]int64{got, code}, [2]int64{want, impl.OK})
		}
		for _, n := range []int64{impl.MaxScaled + 1, -impl.MaxScaled - 1, math.MaxInt64, math.MinInt64} {
			got, code := impl.ScaleFrac(n, f)
			check(t, fmt.Sprintf("ScaleFrac(%d, %v)", n, f), [2]int64{got, code}, [2]int64{0, impl.ErrRange})
		}
	}
	halves := map[int64]int64{5: 13, -5: -12, 1: 3, -1: -2, 2: 5, -2: -5}
	for n, want := range halves {
		got, _ := impl.ScaleFrac(n, q(5, 2))
		check(t, fmt.Sprintf("%d times 5/2", n), got, want)
		got, _ = impl.ScaleFrac(-n, q(-5, 2))
		check(t, fmt.Sprintf("%d times -5/2", -n), got, want)
	}
}

func TestMixFrac(t *testing.T) {
	most := q(impl.MaxNum, 1)
	cases := []struct {
		what    string
		a, b, t frac
		want    frac
		code    int64
	}{
		{"a third", q(5, 2), q(-5, 2), q(1, 3), q(5, 6), impl.OK},
		{"begin", q(5, 2), q(-5, 2), q(0, 1), q(5, 2), impl.OK},
		{"end", q(5, 2), q(-5, 2), q(1, 1), q(-5, 2), impl.OK},
		{"outside", q(1, 1), q(2, 1), q(-3, 2), q(-1, 2), impl.OK},
		{"difference out of range", q(-1, 1), most, q(0, 1), frac{}, impl.ErrRange},
		{"product out of range", q(0, 1), most, q(2, 1), frac{}, impl.ErrRange},
		{"product out of range, the sum would not be", q(-impl.MaxNum, 1), q(0, 1), q(2, 1), frac{}, impl.ErrRange},
		{"sum out of range", most, q(0, 1), q(-1, 1), frac{}, impl.ErrRange},
		{"denominator of the product", q(0, 1), q(1, impl.MaxDen), q(1, 2), frac{}, impl.ErrRange},
		{"a is not valid", q(2, 4), q(1, 1), q(0, 1), frac{}, impl.ErrInvalid},
		{"b is not valid", q(1, 1), frac{}, q(0, 1), frac{}, impl.ErrInvalid},
		{"t is not valid", q(1, 1), q(1, 1), q(1, 0), frac{}, impl.ErrInvalid},
		{"t is not valid, difference out of range", q(-1, 1), most, q(2, 4), frac{}, impl.ErrInvalid},
	}
	for _, c := range cases {
		got, code := impl.MixFrac(c.a, c.b, c.t)
		checkFrac(t, c.what, got, code, c.want, c.code)
	}
}

func TestMixFracSteps(t *testing.T) {
	list := someFracs(fixedRandom(), 15)
	for _, a := range list {
		for _, b := range list {
			for _, part := range list {
				want, due := fracOf(new(big.Rat).Sub(rat(b), rat(a)))
				if due == impl.OK {
					want, due = fracOf(new(big.Rat).Mul(rat(part), rat(want)))
				}
				if due == impl.OK {
					want, due = fracOf(new(big.Rat).Add(rat(a), rat(want)))
				}
				got, code := impl.MixFrac(a, b, part)
				checkFrac(t, fmt.Sprintf("MixFrac(%v, %v, %v)", a, b, part), got, code, want, due)
			}
		}
	}
}

func TestFracTexts(t *testing.T) {
	for s, f := range map[string]frac{"-3/4": q(-3, 4), "2": q(2, 1), "0": q(0, 1), "-7": q(-7, 1), "5/2": q(5, 2), "1/1000000": q(1, 1000000),
		"1000000000": q(1000000000, 1), "-1000000000": q(-1000000000, 1), "-999999999/1000000": q(-999999999, 1000000)} {
		got, ok := impl.ReadFrac(s)
		check(t, "ReadFrac "+s, got, f)
		check(t, "ReadFrac "+s, ok, true)
		check(t, "FracText of "+s, impl.FracText(f), s)
	}
	for _, f := range someFracs(fixedRandom(), 2000) {
		got, ok := impl.ReadFrac(impl.FracText(f))
		check(t, impl.FracText(f), got, f)
		check(t, impl.FracText(f), ok, true)
	}
}

func TestReadFracOthers(t *testing.T) {
	for _, s := range []string{"", "/", "2/4", "2/1", "0/1", "0/2", "1/0", "-0", "-0/3", "+1", "+1/2", "01", "01/2", "1/02", "1/-2", "-1/-2", "1/+2", "1/", "/2",
		"-/2", "1//2", "1/2/3", "1/2/", "1 /2", "1/ 2", " 1/2", "1/2 ", "1/2\n", "1.5", "1e3", "a", "1/a", "1\\2", "1000000001", "-1000000001", "1/1000001",
		"1000000000/1000000", "999999999999999999/2", "9223372036854775807", "1/9223372036854775808", "１/2", "1/" + strings.Repeat("9", 1000)} {
		got, ok := impl.ReadFrac(s)
		check(t, fmt.Sprintf("ReadFrac(%.30q)", s), got, frac{})
		check(t, fmt.Sprintf("ReadFrac(%.30q)", s), ok, false)
	}
}

// TestReadFracCanonical checks all short texts of the bytes that occur: whatever is read is written back alike.
func TestReadFracCanonical(t *testing.T) {
	const letters = "-/012+ "
	texts := []string{""}
	for range 6 {
		var longer []string
		for _, s := range texts {
			for i := range len(letters) {
				longer = append(longer, s+letters[i:i+1])
			}
		}
		for _, s := range longer {
			if f, ok := impl.ReadFrac(s); ok && impl.FracText(f) != s {
				t.Fatalf("ReadFrac(%q) is %v, whose text is %q", s, f, impl.FracText(f))
			} else if !ok && f != (frac{}) {
				t.Fatalf("ReadFrac(%q) is %v and false", s, f)
			}
		}
		texts = longer
	}
}

// fractionResults returns what the functions of chapter 2 return for a pair of fractions, valid or not.
func fractionResults(a, b frac) []any {
	var list []any
	for _, o := range operations() {
		f, code := o.apply(a, b)
		list = append(list, f, code)
	}
	mixed, one := impl.MixFrac(a, b, a)
	made, two := impl.MakeFrac(a.Num, b.Den)
	scaled, three := impl.ScaleFrac(a.Num, b)
	return append(list, mixed, one, made, two, scaled, three, impl.CompareFrac(a, b), impl.FloorFrac(a), impl.RoundFrac(a), impl.FracText(a), impl.ValidFrac(a))
}

// TestFractionsTotal is promise 1 for chapter 2: all functions return for all arguments, twice alike.
func TestFractionsTotal(t *testing.T) {
	var list []frac
	for _, num := range extremeNumbers() {
		for _, den := range extremeNumbers() {
			list = append(list, frac{Num: num, Den: den})
		}
	}
	others := append(badFracs(), someFracs(fixedRandom(), 0)...)
	for _, a := range list {
		for _, b := range others {
			if !slices.Equal(fractionResults(a, b), fractionResults(a, b)) || !slices.Equal(fractionResults(b, a), fractionResults(b, a)) {
				t.Fatalf("equal arguments %v and %v have different results", a, b)
			}
		}
	}
	for _, s := range oddTexts() {
		f, ok := impl.ReadFrac(s)
		again, too := impl.ReadFrac(s)
		check(t, fmt.Sprintf("ReadFrac(%.30q) again", s), again, f)
		check(t, fmt.Sprintf("ReadFrac(%.30q) again", s), too, ok)
	}
}
