package impl

import (
	"math/bits"
	"strings"
)

// Limits of fractions.
const (
	MaxDen    = 1000000
	MaxNum    = 1000000000
	MaxScaled = 1073741824
)

// Frac is a fraction in lowest terms.
type Frac struct {
	Num int64
	Den int64
}

// ValidFrac reports whether f is valid.
func ValidFrac(f Frac) bool {
	if f.Den < 1 || f.Den > MaxDen || f.Num < -MaxNum || f.Num > MaxNum {
		return false
	}
	return commonDivisor(magnitude(f.Num), magnitude(f.Den)) == 1
}

// MakeFrac returns a fraction.
func MakeFrac(num, den int64) (Frac, int64) {
	if den == 0 {
		return Frac{}, ErrInvalid
	}
	n, d := magnitude(num), magnitude(den)
	divisor := commonDivisor(n, d)
	n, d = n/divisor, d/divisor
	if n > MaxNum || d > MaxDen {
		return Frac{}, ErrRange
	}
	if (num < 0) != (den < 0) {
		return Frac{Num: -int64(n), Den: int64(d)}, OK
	}
	return Frac{Num: int64(n), Den: int64(d)}, OK
}

// AddFrac returns the sum of two fractions.
func AddFrac(a, b Frac) (Frac, int64) { return combineFrac(a, b, a.plus) }

// SubFrac returns the difference of two fractions.
func SubFrac(a, b Frac) (Frac, int64) { return combineFrac(a, b, a.minus) }

// MulFrac returns the product of two fractions.
func MulFrac(a, b Frac) (Frac, int64) { return combineFrac(a, b, a.times) }

// DivFrac returns the quotient of two fractions.
func DivFrac(a, b Frac) (Frac, int64) { return combineFrac(a, b, a.over) }

// CompareFrac compares two fractions.
func CompareFrac(a, b Frac) int64 {
	switch {
	case !ValidFrac(a) || !ValidFrac(b) || a == b:
		return 0
	case a.Num*b.Den < b.Num*a.Den:
		return -1
	default:
		return 1
	}
}

// FloorFrac returns the greatest integer that is not greater than a fraction.
func FloorFrac(a Frac) int64 {
	if !ValidFrac(a) {
		return 0
	}
	if a.Num%a.Den < 0 {
		return a.Num/a.Den - 1
	}
	return a.Num / a.Den
}

// RoundFrac returns the nearest integer.
func RoundFrac(a Frac) int64 {
	if !ValidFrac(a) {
		return 0
	}
	return a.nearest(1)
}

// ScaleFrac returns the nearest integer to a number times a fraction.
func ScaleFrac(n int64, a Frac) (int64, int64) {
	if !ValidFrac(a) {
		return 0, ErrInvalid
	}
	if n < -MaxScaled || n > MaxScaled {
		return 0, ErrRange
	}
	return a.nearest(n), OK
}

// MixFrac returns a fraction between two fractions.
func MixFrac(a, b, t Frac) (Frac, int64) {
	// An invalid t counts before a difference that is out of range.
	if !ValidFrac(t) {
		return Frac{}, ErrInvalid
	}
	way, code := SubFrac(b, a)
	if code != OK {
		return Frac{}, code
	}
	part, code := MulFrac(t, way)
	if code != OK {
		return Frac{}, code
	}
	return AddFrac(a, part)
}

// FracText returns the text form of a fraction.
func FracText(f Frac) string {
	if !ValidFrac(f) {
		return ""
	}
	if f.Den == 1 {
		return Decimal(f.Num)
	}
	return Decimal(f.Num) + "/" + Decimal(f.Den)
}

// ReadFrac returns the fraction with a text form.
func ReadFrac(s string) (Frac, bool) {
	above, below, divided := strings.Cut(s, "/")
	num, ok := ReadDecimal(above)
	if !ok {
		return Frac{}, false
	}
	den := int64(1)
	if divided {
		// A denominator of 1 is never written.
		den, ok = ReadDecimal(below)
		if !ok || den == 1 {
			return Frac{}, false
		}
	}
	f := Frac{Num: num, Den: den}
	if !ValidFrac(f) {
		return Frac{}, false
	}
	return f, true
}

// combineFrac applies an operation of the fraction a to b if both are valid.
// The operations rely on that: their products fit into an int64.
func combineFrac(a, b Frac, operation func(Frac) (Frac, int64)) (Frac, int64) {
	if !ValidFrac(a) || !ValidFrac(b) {
		return Frac{}, ErrInvalid
	}
	return operation(b)
}

// wholeFrac returns the fraction of an integer, which is valid if n is at most MaxNum either way.
func wholeFrac(n int64) Frac { return Frac{Num: n, Den: 1} }

func (f Frac) negative() Frac { return Frac{Num: -f.Num, Den: f.Den} }

// absolute returns the absolute value of a valid fraction.
func (f Frac) absolute() Frac { return Frac{Num: max(f.Num, -f.Num), Den: f.Den} }

func (f Frac) plus(g Frac) (Frac, int64) {
	return MakeFrac(f.Num*g.Den+g.Num*f.Den, f.Den*g.Den)
}

func (f Frac) minus(g Frac) (Frac, int64) {
	return MakeFrac(f.Num*g.Den-g.Num*f.Den, f.Den*g.Den)
}

func (f Frac) times(g Frac) (Frac, int64) {
	return MakeFrac(f.Num*g.Num, f.Den*g.Den)
}

func (f Frac) over(g Frac) (Frac, int64) {
	if g == wholeFrac(0) {
		return Frac{}, ErrRange
	}
	return MakeFrac(f.Num*g.Den, f.Den*g.Num)
}

// nearest returns the integer nearest to n times f, the greater one of two.
// For a valid f and n up to MaxScaled the product is less than 2 to the 64, so that its quotient fits.
func (f Frac) nearest(n int64) int64 {
	high, low := bits.Mul64(magnitude(n), magnitude(f.Num))
	quotient, rest := bits.Div64(high, low, uint64(f.Den))
	twice, den := 2*rest, uint64(f.Den)
	if (n < 0) != (f.Num < 0) {
		// Exactly between two integers, the greater one is the one nearer to 0 here.
		if twice > den {
			quotient++
		}
		return -int64(quotient)
	}
	if twice >= den {
		quotient++
	}
	return int64(quotient)
}

// magnitude returns the absolute value, which for the least int64 is no int64.
func magnitude(n int64) uint64 {
	if n < 0 {
		return -uint64(n)
	}
	return uint64(n)
}

// commonDivisor returns the greatest common divisor; that of 0 and n is n.
func commonDivisor(a, b uint64) uint64 {
	for b != 0 {
		a, b = b, a%b
	}
	return a
}
