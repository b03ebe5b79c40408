package tests

import (
	"fmt"
	"maps"
	"math/big"
	"math/rand"
	"regexp"
	"slices"
	"strings"
	"testing"

	"loop.example/g00883/impl"
)

type linear = impl.Linear
type system = impl.System

const most = impl.MaxNum

// expr returns the expression with the parts that a text lists in any order; it may be one that is not valid.
func expr(text string) linear {
	x := linear{Const: q(0, 1)}
	for _, part := range strings.Split(text, " + ") {
		number, name, isTerm := strings.Cut(part, "*")
		r, ok := new(big.Rat).SetString(number)
		if !ok {
			panic("no number in " + part)
		}
		f := frac{Num: r.Num().Int64(), Den: r.Denom().Int64()}
		if isTerm {
			x.Terms = append(x.Terms, impl.Term{Name: name, Coef: f})
		} else {
			x.Const = f
		}
	}
	return x
}

// rows returns the system whose rows are written as in SystemText; it may be one that is not valid.
func rows(lines ...string) system {
	var s system
	for _, line := range lines {
		name, value, _ := strings.Cut(line, " = ")
		s.Rows = append(s.Rows, impl.Row{Name: name, Value: expr(value)})
	}
	return s
}

// sumOf returns the expression with the Coef 1 for each name.
func sumOf(names ...string) linear {
	x := linear{Const: q(0, 1)}
	for _, name := range names {
		x.Terms = append(x.Terms, impl.Term{Name: name, Coef: q(1, 1)})
	}
	return x
}

// numbered returns names in their order: p10, p11 and so on.
func numbered(prefix string, count int) []string {
	var names []string
	for i := range count {
		names = append(names, fmt.Sprint(prefix, 10+i))
	}
	return names
}

// manyRows returns a system of that many known names, r10, r11 and so on, each of which is 1.
func manyRows(count int) system {
	var lines []string
	for _, name := range numbered("r", count) {
		lines = append(lines, name+" = 1")
	}
	return rows(lines...)
}

// show tells everything of a value but whether an empty slice is nil.
func show(list ...any) string { return fmt.Sprintf("%+v", list) }

// badLinears returns expressions that are not valid, for each reason.
func badLinears() []linear {
	list := []linear{{}, {Terms: expr("1*a").Terms}, sumOf("b", "a"), sumOf("a", "a"), sumOf("a", "c", "b"), sumOf("a", "b", "b"), sumOf("a", "aa", "a.a"),
		expr("0*a"), expr("1*a + 0*b + 2*c"), sumOf(numbered("n", impl.MaxTerms+1)...)}
	for _, name := range []string{"", "A", "1", "a b", "a*", ".a", "abcdefghijklm", "a\x00", "ä"} {
		list = append(list, sumOf(name))
	}
	for _, bad := range badFracs() {
		list = append(list, linear{Const: bad}, linear{Const: bad, Terms: expr("1*a").Terms},
			linear{Const: q(0, 1), Terms: []impl.Term{{Name: "a", Coef: bad}}},
			linear{Const: q(most, 1), Terms: []impl.Term{{Name: "a", Coef: q(most, 1)}, {Name: "b", Coef: bad}}})
	}
	return list
}

// badSystems returns systems that are not valid, for each reason.
func badSystems() []system {
	list := []system{rows("b = 1", "a = 2"), rows("a = 1", "a = 1"), rows("a = 1", "b = 2", "b = 3"), rows("a = 1", "c = 2", "b = 3"),
		rows("a = 1*a"), rows("a = 1*b", "b = 1"), rows("a = 1", "b = 1*a"), rows("a = 1*c", "b = 1*x + 1*y", "c = 2"),
		rows("b = 1", "c = 1*a + 1*b + 1*d"), rows("a = 1*b", "b = 1*a"), manyRows(impl.MaxUnknowns + 1)}
	for _, name := range []string{"", "A", "1", "a b", ".a", "abcdefghijklm", "a="} {
		list = append(list, system{Rows: []impl.Row{{Name: name, Value: expr("1")}}})
	}
	for _, x := range badLinears() {
		list = append(list, system{Rows: []impl.Row{{Name: "q", Value: x}}},
			system{Rows: []impl.Row{{Name: "p", Value: expr("1")}, {Name: "q", Value: x}, {Name: "r", Value: expr("1*s")}}})
	}
	return list
}

// goodSystems returns valid systems: empty ones, those at the limits, and others.
func goodSystems() []system {
	full := manyRows(impl.MaxUnknowns)
	for i := range full.Rows {
		full.Rows[i].Value = sumOf(numbered("f", impl.MaxTerms)...)
	}
	return []system{{}, {Rows: []impl.Row{}}, rows("a = 1"), rows("a = 1*b"), rows("a = 1*c", "b = 2*c + 1/2"), rows("b = 1*a + 1*c"), rows("a = 5", "a.b = -1*ab", "b = 0"),
		rows("abcdefghijkl = 1*a.1"), manyRows(impl.MaxUnknowns), full}
}

func TestEquationConstants(t *testing.T) {
	check(t, "kinds", [2]int64{impl.EqNew, impl.EqRedundant}, [2]int64{1, 2})
	check(t, "limits", [2]int64{impl.MaxTerms, impl.MaxUnknowns}, [2]int64{12, 24})
}

func TestValidLinear(t *testing.T) {
	good := []linear{expr("0"), expr("1"), expr("-1/1000000"), expr("1*a"), expr("3/2*a.x + -1*b + 5"), expr("1*a + 1*a.b + 1*a0 + 1*aa + 1*b"), sumOf("abcdefghijkl"),
		sumOf(numbered("n", impl.MaxTerms)...), {Const: q(0, 1), Terms: []impl.Term{}}, expr("1000000000*a + -1000000000*b + 1000000000")}
	for _, x := range good {
		check(t, show("ValidLinear", x), impl.ValidLinear(x), true)
	}
	for _, x := range badLinears() {
		check(t, show("ValidLinear", x), impl.ValidLinear(x), false)
	}
}

func TestSameLinear(t *testing.T) {
	texts := []string{"0", "1", "1/2", "1*a", "2*a", "1*b", "1*a + 1", "1*a + 1*b", "1*b + 1*a", "1*a + 1*b + 1", "1*a + 2*b", "0*a", "0*A"}
	for _, a := range texts {
		for _, b := range texts {
			check(t, show("SameLinear", a, b), impl.SameLinear(expr(a), expr(b)), a == b)
		}
	}
	check(t, "no terms", impl.SameLinear(linear{Terms: []impl.Term{}}, linear{}), true)
	check(t, "not valid", impl.SameLinear(linear{Const: q(2, 4)}, linear{Const: q(1, 2)}), false)
	check(t, "not valid, too", impl.SameLinear(linear{Const: q(2, 4)}, linear{Const: q(2, 4)}), true)
}

func TestSameSystem(t *testing.T) {
	list := []system{{}, rows("a = 1"), rows("a = 2"), rows("b = 1"), rows("a = 1*b"), rows("a = 1", "b = 1"), rows("b = 1", "a = 1"), rows("a = 1", "b = 2"),
		rows("a = 1*c", "b = 1*c"), rows("a = 1*c", "b = 1*c + 1"), rows("A = 1"), rows("a = 0*a")}
	for i, a := range list {
		for k, b := range list {
			check(t, show("SameSystem", a, b), impl.SameSystem(a, b), i == k)
		}
	}
	none := system{Rows: []impl.Row{}}
	check(t, "no rows", impl.SameSystem(none, system{}), true)
	a, b := rows("a = 1"), rows("a = 1")
	b.Rows[0].Value.Terms = []impl.Term{}
	check(t, "no terms", impl.SameSystem(a, b), true)
}

func TestNameLinear(t *testing.T) {
	for _, name := range []string{"a", "z9", "a.x", "abcdefghijkl"} {
		got, code := impl.NameLinear(name)
		check(t, "NameLinear "+name, show(got, code), show(sumOf(name), impl.OK))
	}
	for _, name := range append(oddTexts(), "A", "9a", ".a", "abcdefghijklm", "a*b", "a ", "\xe4") {
		if !impl.IsName(name) {
			got, code := impl.NameLinear(name)
			check(t, fmt.Sprintf("NameLinear(%.30q)", name), show(got, code), show(linear{}, impl.ErrInvalid))
		}
	}
}

func TestAddLinear(t *testing.T) {
	left, right := numbered("a", impl.MaxTerms), numbered("b", impl.MaxTerms)
	opposite, _ := impl.ScaleLinear(sumOf(left...), q(-1, 1))
	// exchanged takes names from the left ones, as many as count, and brings other ones instead.
	exchanged := func(count int) linear {
		return linear{Const: q(0, 1), Terms: append(slices.Clone(opposite.Terms[:count]), sumOf(right[:count]...).Terms...)}
	}
	cases := []struct {
		what       string
		a, b, want linear
		code       int64
	}{
		{"nothing", expr("0"), expr("0"), expr("0"), impl.OK},
		{"numbers", expr("1/2"), expr("1/3"), expr("5/6"), impl.OK},
		{"one name", expr("1/2*a + 1"), expr("1/3*a"), expr("5/6*a + 1"), impl.OK},
		{"names between names", expr("1*a + 2*c + 3*e"), expr("4*b + 5*d + 6*f + 7"), expr("1*a + 4*b + 2*c + 5*d + 3*e + 6*f + 7"), impl.OK},
		{"a dot before digits before letters", expr("1*ab + 2*b"), expr("3*a + 4*a.b + 5*a1"), expr("3*a + 4*a.b + 5*a1 + 1*ab + 2*b"), impl.OK},
		{"one term left", expr("3/2*a.x + -1*b + 5"), expr("1*b"), expr("3/2*a.x + 5"), impl.OK},
		{"no term left", expr("1*a + -2/3*b + 5"), expr("-1*a + 2/3*b + -5"), expr("0"), impl.OK},
		{"some terms left", expr("1*a + 1*b + 1*c + 1*d"), expr("1*a + -1*b + 1*c + -1*d"), expr("2*a + 2*c"), impl.OK},
		{"reached number", expr("999999999"), expr("1"), expr("1000000000"), impl.OK},
		{"exceeded number", expr("1*a + 1000000000"), expr("1*a + 1"), linear{}, impl.ErrRange},
		{"exceeded Coef", expr("1*a + 1000000000*b"), expr("1*b"), linear{}, impl.ErrRange},
		{"exceeded Coef of the first name", expr("1000000000*a + 1*b"), expr("1*a + 1*b"), linear{}, impl.ErrRange},
		{"exceeded denominator", expr("1/999983*a"), expr("1/999979*a"), linear{}, impl.ErrRange},
		{"as many terms as possible", sumOf(left[:6]...), sumOf(right[:6]...), sumOf(append(slices.Clone(left[:6]), right[:6]...)...), impl.OK},
		{"one term more", sumOf(left[:6]...), sumOf(right[:7]...), linear{}, impl.ErrFull},
		{"one term more at the begin", expr("1*a"), sumOf(right...), linear{}, impl.ErrFull},
		{"one term more at the end", sumOf(left...), expr("1*z"), linear{}, impl.ErrFull},
		{"twice as many terms", sumOf(left...), sumOf(right...), linear{}, impl.ErrFull},
		{"no term of as many as possible", sumOf(left...), opposite, expr("0"), impl.OK},
		{"as many terms as possible after others vanish", sumOf(left...), exchanged(6), sumOf(append(slices.Clone(left[6:]), right[:6]...)...), impl.OK},
		{"a name less, a name more", sumOf(left...), expr("-1*a21 + 1*z"), sumOf(append(slices.Clone(left[:11]), "z")...), impl.OK},
		{"a name more, a name less", sumOf(left...), expr("1*a + -1*a21"), sumOf(append([]string{"a"}, left[:11]...)...), impl.OK},
		{"one term more although one vanishes", sumOf(left...), expr("-1*a21 + 1*y + 1*z"), linear{}, impl.ErrFull},
		{"range before full", sumOf(left...), expr("1000000000*a21 + 1*z"), linear{}, impl.ErrRange},
		{"range behind full", sumOf(left...), expr("1*a + 1000000000*a21"), linear{}, impl.ErrRange},
		{"range of the number before full", linear{Const: q(most, 1), Terms: sumOf(left...).Terms}, expr("1*z + 1"), linear{}, impl.ErrRange},
	}
	for _, c := range cases {
		got, code := impl.AddLinear(c.a, c.b)
		check(t, c.what, show(got, code), show(c.want, c.code))
		got, code = impl.AddLinear(c.b, c.a)
		check(t, c.what+", the other way round", show(got, code), show(c.want, c.code))
	}
}

func TestScaleLinear(t *testing.T) {
	cases := []struct {
		what string
		a    linear
		f    frac
		want linear
		code int64
	}{
		{"times 1", expr("3/2*a.x + -1*b + 5"), q(1, 1), expr("3/2*a.x + -1*b + 5"), impl.OK},
		{"times -2/3", expr("3/2*a.x + -1*b + 5"), q(-2, 3), expr("-1*a.x + 2/3*b + -10/3"), impl.OK},
		{"times 0", expr("3/2*a.x + -1*b + 5"), q(0, 1), expr("0"), impl.OK},
		{"the greatest numbers times 0", expr("1000000000*a + 1/1000000*b + -1000000000"), q(0, 1), expr("0"), impl.OK},
		{"the greatest numbers times -1", expr("1000000000*a + -1/1000000*b + -1000000000"), q(-1, 1), expr("-1000000000*a + 1/1000000*b + 1000000000"), impl.OK},
		{"nothing times something", expr("0"), q(most, 1), expr("0"), impl.OK},
		{"reached Coef", expr("500000000*a"), q(2, 1), expr("1000000000*a"), impl.OK},
		{"exceeded number", expr("1*a + 500000001"), q(2, 1), linear{}, impl.ErrRange},
		{"exceeded Coef", expr("1*a + 1*b + 500000001*c"), q(2, 1), linear{}, impl.ErrRange},
		{"exceeded first Coef", expr("-500000001*a + 1*b"), q(2, 1), linear{}, impl.ErrRange},
		{"exceeded denominator", expr("1/1000*a"), q(1, 1001), linear{}, impl.ErrRange},
		{"as many terms as possible", sumOf(numbered("a", impl.MaxTerms)...), q(1, 1), sumOf(numbered("a", impl.MaxTerms)...), impl.OK},
	}
	for _, c := range cases {
		got, code := impl.ScaleLinear(c.a, c.f)
		check(t, c.what, show(got, code), show(c.want, c.code))
	}
}

func TestValidSystem(t *testing.T) {
	for _, s := range goodSystems() {
		check(t, show("ValidSystem", s), impl.ValidSystem(s), true)
	}
	for _, s := range badSystems() {
		check(t, show("ValidSystem", s), impl.ValidSystem(s), false)
	}
}

func TestReduceLinear(t *testing.T) {
	twelve := sumOf(numbered("n", impl.MaxTerms)...)
	wide := system{Rows: []impl.Row{{Name: "m", Value: twelve}}}
	ends := rows("a = 1", "b = -1", "z = 1")
	cases := []struct {
		what    string
		s       system
		x, want linear
		code    int64
	}{
		{"no rows", system{}, expr("3/2*a.x + -1*b + 5"), expr("3/2*a.x + -1*b + 5"), impl.OK},
		{"no terms", ends, expr("7"), expr("7"), impl.OK},
		{"known names", rows("a = 6", "b = 4"), expr("2*a + -3*b + 1/2"), expr("1/2"), impl.OK},
		{"names that depend", rows("v = 1/2*u + -1/2"), expr("4*u + 2*v + 1"), expr("5*u"), impl.OK},
		{"a name that vanishes", rows("v = 1/2*u + -1/2"), expr("4*u + -8*v"), expr("4"), impl.OK},
		{"other names", rows("b = 1*z"), expr("1*a + 1*b + 1*c"), expr("1*a + 1*c + 1*z"), impl.OK},
		{"one free name of several rows", rows("a = 1*z + 1", "b = -2*z", "c = 1*z"), expr("1*a + 1*b + 1*c"), expr("1"), impl.OK},
		{"the number is the first", ends, expr("1*a + 1*b + 1000000000"), linear{}, impl.ErrRange},
		{"the terms follow in order", ends, expr("1*b + 1*z + 1000000000"), expr("1000000000"), impl.OK},
		{"a term out of range", rows("a = 2"), expr("1000000000*a + 1"), linear{}, impl.ErrRange},
		{"a Coef out of range", rows("a = 1000000000*z"), expr("1*a + 1*z"), linear{}, impl.ErrRange},
		{"a term that fits", wide, expr("1*m + -1*n10 + 1*z"), sumOf(append(numbered("n", impl.MaxTerms)[1:], "z")...), impl.OK},
		{"a term too many", wide, expr("1*m + 1*z"), linear{}, impl.ErrFull},
		{"a term too many before one is gone", wide, expr("1*a + 1*m + -1*n10"), linear{}, impl.ErrFull},
		{"a term too many before another is out of range", wide, expr("1*a + 1*m + 1000000000*n10"), linear{}, impl.ErrFull},
		{"a term out of range before one too many", wide, expr("1*m + 1000000000*n10 + 1*z"), linear{}, impl.ErrRange},
	}
	for _, c := range cases {
		got, code := impl.ReduceLinear(c.s, c.x)
		check(t, c.what, show(got, code), show(c.want, c.code))
	}
}

// equated returns the system of some equations, of which each must be new.
func equated(t *testing.T, pairs ...string) system {
	t.Helper()
	var s system
	for i := 0; i < len(pairs); i += 2 {
		next, kind, code := impl.Equate(s, expr(pairs[i]), expr(pairs[i+1]))
		if kind != impl.EqNew || code != impl.OK {
			t.Fatalf("%s = %s: kind %d with code %d", pairs[i], pairs[i+1], kind, code)
		}
		s = next
	}
	return s
}

func TestEquateExample(t *testing.T) {
	s := equated(t, "1*a + 1*b", "10", "1*a + -1*b", "2")
	a, one := impl.ValueOf(s, "a")
	b, two := impl.ValueOf(s, "b")
	check(t, "values", show(a, one, b, two), show(q(6, 1), impl.OK, q(4, 1), impl.OK))
	check(t, "text", impl.SystemText(s), "a = 6\nb = 4\n")
	again, kind, code := impl.Equate(s, expr("2*a"), expr("3*b"))
	check(t, "redundant", show(again, kind, code), show(s, impl.EqRedundant, impl.OK))
	again, kind, code = impl.Equate(s, expr("1*a"), expr("7"))
	check(t, "contradiction", show(again, kind, code), show(system{}, 0, impl.ErrState))
}

func TestEquateNew(t *testing.T) {
	last := manyRows(impl.MaxUnknowns - 1)
	cases := []struct {
		what string
		s    system
		a, b string
		want system
	}{
		{"a number", system{}, "1*a", "5", rows("a = 5")},
		{"a number on the left", system{}, "5", "1*a + 2", rows("a = 3")},
		{"the first one of two", system{}, "1*a + 1*b", "0", rows("a = -1*b")},
		{"the first one of two with other signs", system{}, "-2*a + 2*b", "1", rows("a = 1*b + -1/2")},
		{"the greatest one", system{}, "1*a + 3*b + 2*c", "6", rows("b = -1/3*a + -2/3*c + 2")},
		{"the greatest one is negative", system{}, "1*a + -3*b + 2*c", "6", rows("b = 1/3*a + 2/3*c + -2")},
		{"the greatest one is on the right", system{}, "1*a + 2*b", "3*c", rows("c = 1/3*a + 2/3*b")},
		{"the first one of several great ones", system{}, "1*a + 5*b + -5*c + 4*d + 5*e", "0", rows("b = -1/5*a + 1*c + -4/5*d + -1*e")},
		{"fractions", system{}, "2/3*a + 3/4*b", "0", rows("b = -8/9*a")},
		{"both sides count", system{}, "3*a + 2*b", "2*a", rows("b = -1/2*a")},
		{"what is left counts", rows("a = 3*z"), "1*a + 2*y", "2*z", rows("a = 3*z", "y = -1/2*z")},
		{"in front of other rows", rows("b = 1"), "1*a + 1*b", "0", rows("a = -1", "b = 1")},
		{"between other rows", rows("a = 1", "c = 2"), "1*b", "3", rows("a = 1", "b = 3", "c = 2")},
		{"in other rows", rows("a = 2*z + 1", "b = 1*y", "c = -1*y + 1*z"), "1*z", "3", rows("a = 7", "b = 1*y", "c = -1*y + 3", "z = 3")},
		{"a name vanishes in other rows", rows("a = 1*y + -1*z"), "1*y", "1*z", rows("a = 0", "y = 1*z")},
		{"the last row", last, "1*z", "2", system{Rows: append(slices.Clone(last.Rows), rows("z = 2").Rows...)}},
		{"a reached Const", system{}, "1/1000000*a", "1000", rows("a = 1000000000")},
		{"a reached denominator", system{}, "1000000*a", "1", rows("a = 1/1000000")},
		{"as many terms as possible", rows("m = 1"), "2*a + 1*b + 1*c + 1*d + 1*e + 1*f + 1*g + 1*h + 1*i + 1*j + 1*k + 1*l", "2",
			rows("a = -1/2*b + -1/2*c + -1/2*d + -1/2*e + -1/2*f + -1/2*g + -1/2*h + -1/2*i + -1/2*j + -1/2*k + -1/2*l + 1", "m = 1")},
	}
	for _, c := range cases {
		got, kind, code := impl.Equate(c.s, expr(c.a), expr(c.b))
		check(t, c.what, show(got, kind, code), show(c.want, impl.EqNew, impl.OK))
	}
}

func TestEquateRedundant(t *testing.T) {
	full := manyRows(impl.MaxUnknowns)
	cases := []struct {
		what string
		s    system
		a, b string
	}{
		{"numbers", system{}, "1/2", "1/2"},
		{"the same names", system{}, "1*a + 2*b", "1*a + 2*b"},
		{"known names", rows("a = 6", "b = 4"), "2*a", "3*b"},
		{"a name that depends", rows("a = 2*z + 1"), "1*a + -1", "2*z"},
		{"a difference of two that depend", rows("a = 2*z + 1", "b = 2*z"), "1*a", "1*b + 1"},
		{"no more rows", full, "1*r10 + 1*r33", "2"},
		{"no more rows, other names", full, "1*z", "1*z"},
	}
	for _, c := range cases {
		got, kind, code := impl.Equate(c.s, expr(c.a), expr(c.b))
		check(t, c.what, show(got, kind, code), show(c.s, impl.EqRedundant, impl.OK))
	}
}

func TestEquateErrors(t *testing.T) {
	full := manyRows(impl.MaxUnknowns)
	ten := impl.LinearText(sumOf(numbered("n", impl.MaxTerms-2)...))
	eleven := ten + " + 1*na"
	twelve := eleven + " + 1*o"
	cases := []struct {
		what string
		s    system
		a, b string
		code int64
	}{
		{"a difference out of range", system{}, "1*a + 1000000000", "-1", impl.ErrRange},
		{"a Coef of the difference out of range", system{}, "1000000000*a", "-1*a", impl.ErrRange},
		{"a difference with too many terms", system{}, twelve, "1*z", impl.ErrFull},
		{"a difference with too many terms that are known", full, "1*r10 + 1*r11 + 1*r12 + 1*r13 + 1*r14 + 1*r15 + 1*r16", "1*r20 + 1*r21 + 1*r22 + 1*r23 + 1*r24 + 1*r25", impl.ErrFull},
		{"what is left out of range", rows("a = 2"), "1000000000*a", "1*z", impl.ErrRange},
		{"too many terms left", rows("m = " + twelve), "1*m", "1*z", impl.ErrFull},
		{"different numbers", system{}, "1", "2", impl.ErrState},
		{"different known names", rows("a = 6", "b = 4"), "1*a", "1*b", impl.ErrState},
		{"a name that depends otherwise", rows("a = 2*z + 1"), "1*a", "2*z", impl.ErrState},
		{"a contradiction, no more rows", full, "1*r10", "2", impl.ErrState},
		{"no more rows", full, "1*z", "2", impl.ErrFull},
		{"no more rows before the new row", full, "1000001*z", "2", impl.ErrFull},
		{"no more rows before another row", system{Rows: append(slices.Clone(full.Rows[1:]), rows("s = 1000000000*z").Rows...)}, "1*z", "2", impl.ErrFull},
		{"what is left before no more rows", full, "1000000000*r10 + 1000000000*r11", "1*z", impl.ErrRange},
		{"1 / Coef does not exist", system{}, "1000001*a", "1000001", impl.ErrRange},
		{"1 / Coef does not exist, for a fraction", system{}, "-1000001/2*a + 1*b", "0", impl.ErrRange},
		{"the Const of the new row", system{}, "1/1000000*a", "1001", impl.ErrRange},
		{"a Coef of the new row", system{}, "1000*a + 1/1001*b", "0", impl.ErrRange},
		{"the Const of another row", rows("a = 1000000000*z"), "1*z", "2", impl.ErrRange},
		{"the terms of another row", rows("a = " + eleven + " + 1*z"), "2*z", "1*x + 1*y", impl.ErrFull},
		{"another row with too many terms before one vanishes", rows("a = 1*m + " + ten + " + 1*o"), "2*m", "-2*o + 1*x + 1*y", impl.ErrFull},
		{"range in the first of two rows", rows("a = 1000000000*z", "b = "+eleven+" + 1*z"), "2*z", "1*x + 1*y + 4", impl.ErrRange},
		{"terms in the first of two rows", rows("b = "+eleven+" + 1*z", "c = 1000000000*z"), "2*z", "1*x + 1*y + 4", impl.ErrFull},
	}
	for _, c := range cases {
		got, kind, code := impl.Equate(c.s, expr(c.a), expr(c.b))
		check(t, c.what, show(got, kind, code), show(system{}, 0, c.code))
	}
}

// exactLinear is an expression with numbers of any size.
type exactLinear struct {
	number *big.Rat
	coefs  map[string]*big.Rat
}

func exactLinearOf(x linear) exactLinear {
	exact := exactLinear{rat(x.Const), map[string]*big.Rat{}}
	for _, term := range x.Terms {
		exact.coefs[term.Name] = rat(term.Coef)
	}
	return exact
}

// step returns the expression if all its numbers are fractions and it has not too many terms, and the code that is due.
func (x exactLinear) step() (linear, int64) {
	number, code := fracOf(x.number)
	result := linear{Const: number}
	for _, name := range slices.Sorted(maps.Keys(x.coefs)) {
		coef, other := fracOf(x.coefs[name])
		if other != impl.OK {
			code = other
		}
		if x.coefs[name].Sign() != 0 {
			result.Terms = append(result.Terms, impl.Term{Name: name, Coef: coef})
		}
	}
	if code == impl.OK && len(result.Terms) > impl.MaxTerms {
		code = impl.ErrFull
	}
	if code != impl.OK {
		return linear{}, code
	}
	return result, impl.OK
}

func exactAdd(a, b linear) (linear, int64) {
	x, y := exactLinearOf(a), exactLinearOf(b)
	x.number.Add(x.number, y.number)
	for name, coef := range y.coefs {
		if _, both := x.coefs[name]; both {
			coef = new(big.Rat).Add(coef, x.coefs[name])
		}
		x.coefs[name] = coef
	}
	return x.step()
}

func exactScale(a linear, f frac) (linear, int64) {
	x := exactLinearOf(a)
	x.number.Mul(x.number, rat(f))
	for _, coef := range x.coefs {
		coef.Mul(coef, rat(f))
	}
	return x.step()
}

func exactReduce(s system, x linear) (linear, int64) {
	sum, code := linear{Const: x.Const}, int64(impl.OK)
	for _, term := range x.Terms {
		part := linear{Const: q(0, 1), Terms: []impl.Term{term}}
		for _, row := range s.Rows {
			if row.Name == term.Name {
				part, code = exactScale(row.Value, term.Coef)
			}
		}
		if code == impl.OK {
			sum, code = exactAdd(sum, part)
		}
		if code != impl.OK {
			return linear{}, code
		}
	}
	return sum, impl.OK
}

// exactRow returns the row that follows if d, which has terms, is 0.
func exactRow(d linear) (impl.Row, int64) {
	pivot := d.Terms[0]
	for _, term := range d.Terms {
		if new(big.Rat).Abs(rat(term.Coef)).Cmp(new(big.Rat).Abs(rat(pivot.Coef))) > 0 {
			pivot = term
		}
	}
	factor, code := fracOf(new(big.Rat).Quo(big.NewRat(-1, 1), rat(pivot.Coef)))
	if code != impl.OK {
		return impl.Row{}, code
	}
	rest := exactLinearOf(d)
	delete(rest.coefs, pivot.Name)
	x, _ := rest.step()
	value, code := exactScale(x, factor)
	return impl.Row{Name: pivot.Name, Value: value}, code
}

func exactEquate(s system, a, b linear) (system, int64, int64) {
	minus, _ := exactScale(b, q(-1, 1))
	d, code := exactAdd(a, minus)
	if code == impl.OK {
		d, code = exactReduce(s, d)
	}
	switch {
	case code != impl.OK:
		return system{}, 0, code
	case len(d.Terms) == 0 && d.Const.Num == 0:
		return s, impl.EqRedundant, impl.OK
	case len(d.Terms) == 0:
		return system{}, 0, impl.ErrState
	case len(s.Rows) == impl.MaxUnknowns:
		return system{}, 0, impl.ErrFull
	}
	row, code := exactRow(d)
	next := system{Rows: []impl.Row{row}}
	for _, other := range s.Rows {
		if code == impl.OK {
			other.Value, code = exactReduce(system{Rows: []impl.Row{row}}, other.Value)
			next.Rows = append(next.Rows, other)
		}
	}
	if code != impl.OK {
		return system{}, 0, code
	}
	slices.SortFunc(next.Rows, func(a, b impl.Row) int { return strings.Compare(a.Name, b.Name) })
	return next, impl.EqNew, impl.OK
}

// randomLinear returns a valid expression of some names.
func randomLinear(random *rand.Rand, names []string, numbers []frac, terms int) linear {
	x := linear{Const: numbers[random.Intn(len(numbers))]}
	used := map[string]bool{}
	for range random.Intn(terms + 1) {
		used[names[random.Intn(len(names))]] = true
	}
	for _, name := range slices.Sorted(maps.Keys(used)) {
		if f := numbers[random.Intn(len(numbers))]; f.Num != 0 {
			x.Terms = append(x.Terms, impl.Term{Name: name, Coef: f})
		}
	}
	return x
}

func smallFracs() []frac {
	return []frac{q(0, 1), q(1, 1), q(-1, 1), q(1, 1), q(-1, 1), q(2, 1), q(-2, 1), q(3, 1), q(1, 2), q(-3, 2), q(2, 3)}
}

// trial is a kind of random expressions.
type trial struct {
	names   []string
	numbers []frac
	terms   int
}

func trials() []trial {
	great := append(smallFracs(), q(most, 1), q(-most, 1), q(1, impl.MaxDen), q(1000, 1), q(-1, 1001), q(most/2+1, 1), q(999983, 999979))
	return []trial{
		{numbered("a", 4), smallFracs(), 3}, {numbered("a", 40), smallFracs()[:5], 3}, {numbered("a", 16), smallFracs()[:5], 12}, {numbered("a", 30), smallFracs()[1:5], 12},
		{numbered("a", 6), great, 4}, {numbered("a", 30), great, 12}, {numbered("a", 60), append(smallFracs()[1:5], q(most, 1)), 5},
	}
}

// TestLinearExact holds sums and products against numbers of any size.
func TestLinearExact(t *testing.T) {
	random := fixedRandom()
	found := map[string]int{}
	for _, c := range trials() {
		for range 2000 {
			a, b, f := randomLinear(random, c.names, c.numbers, c.terms), randomLinear(random, c.names, c.numbers, c.terms), c.numbers[random.Intn(len(c.numbers))]
			sum, code := impl.AddLinear(a, b)
			want, due := exactAdd(a, b)
			check(t, show("AddLinear", a, b), show(sum, code), show(want, due))
			found[show("sum", due)]++
			product, code := impl.ScaleLinear(a, f)
			want, due = exactScale(a, f)
			check(t, show("ScaleLinear", a, f), show(product, code), show(want, due))
			found[show("product", due)]++
		}
	}
	check(t, "codes that occur", len(found), 5)
}

// TestEquateExact holds ReduceLinear and Equate against the steps of the document with numbers of any size.
func TestEquateExact(t *testing.T) {
	t.Parallel()
	random := fixedRandom()
	found := map[string]int{}
	for _, c := range trials() {
		for range 40 {
			s := system{}
			for range 60 {
				a, b := randomLinear(random, c.names, c.numbers, c.terms), randomLinear(random, c.names, c.numbers, c.terms)
				x, code := impl.ReduceLinear(s, a)
				reduced, due := exactReduce(s, a)
				check(t, show("ReduceLinear", s, a), show(x, code), show(reduced, due))
				found[show("reduced", due)]++
				next, kind, code := impl.Equate(s, a, b)
				want, wanted, due := exactEquate(s, a, b)
				check(t, show("Equate", s, a, b), show(next, kind, code), show(want, wanted, due))
				found[show("equated", wanted, due)]++
				if code == impl.OK {
					check(t, show("ValidSystem", next), impl.ValidSystem(next), true)
					s = next
				}
			}
		}
	}
	check(t, "codes that occur", len(found), 8)
}

// space is what follows from equations: rows of coefficients, with the number at the end, of which each begins with a 1 where all others have a 0.
type space struct{ rows [][]*big.Rat }

// vector returns the numbers of x for names.
func vector(x linear, names []string) []*big.Rat {
	list := make([]*big.Rat, len(names)+1)
	for i, name := range names {
		list[i] = new(big.Rat)
		for _, term := range x.Terms {
			if term.Name == name {
				list[i] = rat(term.Coef)
			}
		}
	}
	list[len(names)] = rat(x.Const)
	return list
}

func firstOf(v []*big.Rat) int {
	return slices.IndexFunc(v, func(r *big.Rat) bool { return r.Sign() != 0 })
}

// rest returns v without what follows from the rows.
func (s *space) rest(v []*big.Rat) []*big.Rat {
	for _, row := range s.rows {
		v = lessRow(v, row)
	}
	return v
}

// lessRow returns v minus a multiple of a row, so that it is 0 where the row begins.
func lessRow(v, row []*big.Rat) []*big.Rat {
	first := firstOf(row)
	less := make([]*big.Rat, len(v))
	for i := range v {
		less[i] = new(big.Rat).Sub(v[i], new(big.Rat).Mul(v[first], row[i]))
	}
	return less
}

// add adds a vector that does not follow.
func (s *space) add(v []*big.Rat) {
	v = s.rest(v)
	first := firstOf(v)
	row := make([]*big.Rat, len(v))
	for i := range v {
		row[i] = new(big.Rat).Quo(v[i], v[first])
	}
	for i := range s.rows {
		s.rows[i] = lessRow(s.rows[i], row)
	}
	s.rows = append(s.rows, row)
}

// checkSolved holds a system against what follows from the equations from which it comes.
func checkSolved(t *testing.T, s system, follows *space, names []string, truth map[string]frac) {
	t.Helper()
	check(t, "number of rows", len(s.Rows), len(follows.rows))
	for _, row := range s.Rows {
		minus, _ := impl.NameLinear(row.Name)
		minus, _ = impl.ScaleLinear(minus, q(-1, 1))
		d := vector(row.Value, names)
		for i, r := range vector(minus, names) {
			d[i] = new(big.Rat).Add(d[i], r)
		}
		check(t, show("row of ", row.Name, " follows from ", s), firstOf(follows.rest(d)), -1)
	}
	for _, name := range names {
		x, _ := impl.NameLinear(name)
		rest := follows.rest(vector(x, names))
		value, code := impl.ValueOf(s, name)
		if first := firstOf(rest); first >= 0 && first < len(names) {
			if value != (frac{}) || code != impl.ErrState && code != impl.ErrNotFound {
				t.Errorf("ValueOf(%v, %s): got %v with code %d, but the name is not known", s, name, value, code)
			}
			continue
		}
		check(t, show("ValueOf", s, name), show(value, code), show(truth[name], impl.OK))
	}
}

// combination returns both sides of a sum of multiples of some equations.
func combination(random *rand.Rand, equations [][2]linear) (linear, linear) {
	a, b := expr("0"), expr("0")
	for range 3 {
		if len(equations) > 0 {
			e, f := equations[random.Intn(len(equations))], q(random.Int63n(7)-3, 1)
			x, _ := impl.ScaleLinear(e[0], f)
			y, _ := impl.ScaleLinear(e[1], f)
			a, _ = impl.AddLinear(a, x)
			b, _ = impl.AddLinear(b, y)
		}
	}
	return a, b
}

// trueEquation returns an equation that is true for given values.
func trueEquation(random *rand.Rand, names []string, truth map[string]frac) (linear, linear) {
	a, b := randomLinear(random, names, smallFracs(), 3), randomLinear(random, names, smallFracs(), 3)
	difference := rat(a.Const)
	difference.Sub(difference, rat(b.Const))
	for _, term := range a.Terms {
		difference.Add(difference, new(big.Rat).Mul(rat(term.Coef), rat(truth[term.Name])))
	}
	for _, term := range b.Terms {
		difference.Sub(difference, new(big.Rat).Mul(rat(term.Coef), rat(truth[term.Name])))
	}
	b.Const, _ = fracOf(difference.Add(difference, rat(b.Const)))
	return a, b
}

// TestTrueEquations is promise 6: a system says exactly what follows from true equations, whatever they are, and tells the redundant and the false ones.
func TestTrueEquations(t *testing.T) {
	t.Parallel()
	random := fixedRandom()
	names := []string{"a", "b", "b.x", "b.y", "c", "d1", "d2"}
	kinds := map[int64]int{}
	for range 300 {
		truth := map[string]frac{}
		for _, name := range names {
			truth[name], _ = impl.MakeFrac(random.Int63n(21)-10, random.Int63n(3)+1)
		}
		s, follows, equations := system{}, &space{}, [][2]linear{}
		for range 12 {
			a, b := trueEquation(random, names, truth)
			minus, _ := impl.ScaleLinear(b, q(-1, 1))
			d, _ := impl.AddLinear(a, minus)
			want := int64(impl.EqNew)
			if firstOf(follows.rest(vector(d, names))) < 0 {
				want = impl.EqRedundant
			}
			next, kind, code := impl.Equate(s, a, b)
			check(t, show("Equate", s, a, b), show(kind, code), show(want, impl.OK))
			if kind == impl.EqNew {
				follows.add(vector(d, names))
			} else {
				check(t, "system of a redundant equation", show(next), show(s))
			}
			kinds[kind]++
			s, equations = next, append(equations, [2]linear{a, b})
			checkSolved(t, s, follows, names, truth)
			a, b = combination(random, equations)
			again, kind, code := impl.Equate(s, a, b)
			check(t, show("redundant", s, a, b), show(again, kind, code), show(s, impl.EqRedundant, impl.OK))
			b, _ = impl.AddLinear(b, expr("1/3"))
			again, kind, code = impl.Equate(s, a, b)
			check(t, show("false", s, a, b), show(again, kind, code), show(system{}, 0, impl.ErrState))
		}
	}
	if kinds[impl.EqNew] < 500 || kinds[impl.EqRedundant] < 500 {
		t.Errorf("too few equations of a kind: %v", kinds)
	}
}

func TestValueOf(t *testing.T) {
	s := rows("a = 6", "b = 1/2*z + 1", "c = 0", "d = -2/3")
	cases := []struct {
		name string
		want frac
		code int64
	}{
		{"a", q(6, 1), impl.OK}, {"c", q(0, 1), impl.OK}, {"d", q(-2, 3), impl.OK}, {"b", frac{}, impl.ErrState}, {"z", frac{}, impl.ErrNotFound}, {"aa", frac{}, impl.ErrNotFound},
		{"", frac{}, impl.ErrInvalid}, {"A", frac{}, impl.ErrInvalid}, {"a ", frac{}, impl.ErrInvalid}, {"abcdefghijklm", frac{}, impl.ErrInvalid},
	}
	for _, c := range cases {
		got, code := impl.ValueOf(s, c.name)
		check(t, "ValueOf "+c.name, show(got, code), show(c.want, c.code))
	}
	got, code := impl.ValueOf(system{}, "a")
	check(t, "ValueOf without rows", show(got, code), show(frac{}, impl.ErrNotFound))
	for _, bad := range badSystems() {
		for _, name := range []string{"a", "p", "q", "zz", ""} {
			got, code := impl.ValueOf(bad, name)
			check(t, show("ValueOf", bad, name), show(got, code), show(frac{}, impl.ErrInvalid))
		}
	}
}

func TestFreeNames(t *testing.T) {
	cases := []struct {
		s    system
		want []string
	}{
		{system{}, nil}, {rows("a = 6", "b = 4"), nil}, {rows("v = 1/2*u + -1/2"), []string{"u"}},
		{rows("a = 1*z + 1*zz", "b = 1*y + 1*z", "c = 5", "d = 1*aa + -1*z.1"), []string{"aa", "y", "z", "z.1", "zz"}},
	}
	for _, c := range cases {
		check(t, show("FreeNames", c.s), show(impl.FreeNames(c.s)), show(c.want))
	}
	wide := manyRows(impl.MaxUnknowns)
	var all []string
	for i := range wide.Rows {
		names := numbered(fmt.Sprint("f", 10+i, "."), impl.MaxTerms)
		wide.Rows[i].Value, all = sumOf(names...), append(all, names...)
	}
	check(t, "as many names as possible", show(impl.FreeNames(wide)), show(all))
	for _, bad := range badSystems() {
		check(t, show("FreeNames", bad), impl.FreeNames(bad) == nil, true)
	}
}

// wantedLinear reads a text of an expression by the grammar of the document.
func wantedLinear(s string) (linear, bool) {
	const number, name = `(-?[0-9]{1,30}(?:/[0-9]{1,30})?)`, `([a-z][a-z0-9.]{0,11})`
	parts := strings.Split(s, " + ")
	x := linear{Const: q(0, 1)}
	for i, part := range parts {
		term := regexp.MustCompile(`^` + number + `\*` + name + `$`).FindStringSubmatch(part)
		single := regexp.MustCompile(`^` + number + `$`).FindStringSubmatch(part)
		if term == nil && (single == nil || i != len(parts)-1) {
			return linear{}, false
		}
		text := part
		if term != nil {
			text = term[1]
		}
		r, ok := new(big.Rat).SetString(text)
		if !ok || r.RatString() != text {
			return linear{}, false
		}
		f, code := fracOf(r)
		if code != impl.OK || f.Num == 0 && len(parts) > 1 || f.Num == 0 && term != nil {
			return linear{}, false
		}
		if term == nil {
			x.Const = f
			continue
		}
		if k := len(x.Terms); k == impl.MaxTerms || k > 0 && x.Terms[k-1].Name >= term[2] {
			return linear{}, false
		}
		x.Terms = append(x.Terms, impl.Term{Name: term[2], Coef: f})
	}
	return x, true
}

// checkRead holds ReadLinear against the grammar, and LinearText against what is read.
func checkRead(t *testing.T, s string) bool {
	t.Helper()
	got, ok := impl.ReadLinear(s)
	want, wanted := wantedLinear(s)
	check(t, fmt.Sprintf("ReadLinear(%.60q)", s), show(got, ok), show(want, wanted))
	if ok {
		check(t, fmt.Sprintf("LinearText of %.60q", s), impl.LinearText(got), s)
	}
	return ok
}

func TestLinearTexts(t *testing.T) {
	check(t, "example", impl.LinearText(expr("3/2*a.x + -1*b + 5")), "3/2*a.x + -1*b + 5")
	for _, s := range []string{"0", "7", "-1/2", "1*a", "-1*a", "1*a + -1", "1*a + 1*b", "1*a.0 + 1*a0 + 1*aa + 1/2", "1000000000*a + -1000000000*b + 1/1000000",
		impl.LinearText(sumOf(numbered("n", impl.MaxTerms)...)), "1*abcdefghijkl"} {
		check(t, "is read: "+s, checkRead(t, s), true)
		check(t, "is written: "+s, impl.LinearText(expr(s)), s)
	}
	for _, s := range []string{"", " ", "0 + 0", "1*a + 0", "0*a", "0*a + 1", "1 + 1*a", "1*a + 1 + 1", "1*a + 1 + 1*b", "1*b + 1*a", "1*a + 1*a", "a", "*a", "1*", "1*A", "1*a*b", "1 * a",
		"1*a +1", "1*a+ 1", "1*a+1", "1*a  + 1", "1*a +  1", " 1*a", "1*a ", "1*a + ", " + 1", " + ", "1*a + 1*b + ", "1*a + -", "2/4*a", "2/1*a", "+1*a", "01*a", "-0*a", "-0", "1*a - 1",
		"1*a + 1000000001", "1000000001*a", "1/1000001*a", "1*abcdefghijklm", "1*a\n", "1*a\x00", "1*1", "1*.a", "1*\xe4", impl.LinearText(sumOf(numbered("n", impl.MaxTerms)...)) + " + 1*o",
		impl.LinearText(sumOf(numbered("n", impl.MaxTerms)...)) + " + 0", strings.Repeat("1*a + ", 20000) + "1*a"} {
		check(t, fmt.Sprintf("is read: %.60q", s), checkRead(t, s), false)
	}
	for _, s := range oddTexts() {
		checkRead(t, s)
	}
	for _, bad := range badLinears() {
		check(t, show("LinearText", bad), impl.LinearText(bad), "")
	}
}

func TestLinearTextsRestored(t *testing.T) {
	random := fixedRandom()
	for _, c := range trials() {
		for range 500 {
			x := randomLinear(random, c.names, c.numbers, c.terms)
			got, ok := impl.ReadLinear(impl.LinearText(x))
			check(t, "ReadLinear "+impl.LinearText(x), show(got, ok), show(x, true))
		}
	}
}

// TestReadLinearCanonical changes texts of expressions byte by byte, twice.
func TestReadLinearCanonical(t *testing.T) {
	const letters = " +*-/012ab."
	changes := func(text string) []string {
		list := []string{text}
		for i := range len(text) + 1 {
			for k := range letters {
				list = append(list, text[:i]+letters[k:k+1]+text[i:])
				if i < len(text) {
					list = append(list, text[:i]+letters[k:k+1]+text[i+1:])
				}
			}
			if i < len(text) {
				list = append(list, text[:i]+text[i+1:])
			}
		}
		return list
	}
	read := 0
	for _, text := range []string{"1*a + 1*b", "-1/2*a + 5", "3/2*a.x + -1*b + 5", "0"} {
		for _, once := range changes(text) {
			if checkRead(t, once) {
				read++
			}
			if len(text) < 4 {
				for _, twice := range changes(once) {
					checkRead(t, twice)
				}
			}
		}
	}
	if read < 50 {
		t.Errorf("only %d texts are read", read)
	}
}

func TestSystemText(t *testing.T) {
	check(t, "no rows", impl.SystemText(system{}), "")
	check(t, "rows", impl.SystemText(rows("a.b = 6", "b = 3/2*x + -1*y + 5", "c = 0", "d = 1*x")), "a.b = 6\nb = 3/2*x + -1*y + 5\nc = 0\nd = 1*x\n")
	for _, s := range goodSystems() {
		lines := strings.Split(impl.SystemText(s), "\n")
		check(t, show("SystemText", s), show(rows(lines[:len(lines)-1]...)), show(s))
	}
	for _, bad := range badSystems() {
		check(t, show("SystemText", bad), impl.SystemText(bad), "")
	}
}

// TestInvalidEquations holds ErrInvalid before all other errors.
func TestInvalidEquations(t *testing.T) {
	great := linear{Const: q(most, 1), Terms: expr("1000000000*a").Terms}
	twelve := sumOf(numbered("n", impl.MaxTerms)...)
	for _, bad := range badLinears() {
		for _, good := range []linear{expr("0"), expr("1*a"), great, twelve} {
			for _, pair := range [][2]linear{{bad, good}, {good, bad}, {bad, bad}} {
				sum, code := impl.AddLinear(pair[0], pair[1])
				check(t, show("AddLinear", pair), show(sum, code), show(linear{}, impl.ErrInvalid))
				for _, s := range goodSystems() {
					next, kind, code := impl.Equate(s, pair[0], pair[1])
					check(t, show("Equate", s, pair), show(next, kind, code), show(system{}, 0, impl.ErrInvalid))
				}
			}
		}
		for _, f := range []frac{q(0, 1), q(1, 1), q(most, 1)} {
			product, code := impl.ScaleLinear(bad, f)
			check(t, show("ScaleLinear", bad, f), show(product, code), show(linear{}, impl.ErrInvalid))
		}
		for _, s := range append(goodSystems(), badSystems()[:12]...) {
			x, code := impl.ReduceLinear(s, bad)
			check(t, show("ReduceLinear", s, bad), show(x, code), show(linear{}, impl.ErrInvalid))
		}
	}
	for _, f := range badFracs() {
		for _, x := range []linear{expr("0"), expr("1*a"), great} {
			product, code := impl.ScaleLinear(x, f)
			check(t, show("ScaleLinear", x, f), show(product, code), show(linear{}, impl.ErrInvalid))
		}
	}
	for _, bad := range badSystems() {
		for _, x := range []linear{expr("0"), expr("1*z"), great, twelve} {
			got, code := impl.ReduceLinear(bad, x)
			check(t, show("ReduceLinear", bad, x), show(got, code), show(linear{}, impl.ErrInvalid))
			for _, y := range []linear{expr("0"), expr("1"), expr("1*z"), expr("-1*a + -1000000000")} {
				next, kind, code := impl.Equate(bad, x, y)
				check(t, show("Equate", bad, x, y), show(next, kind, code), show(system{}, 0, impl.ErrInvalid))
			}
		}
	}
}

// equationResults are what the functions of chapter 5 return for some arguments, valid or not.
type equationResults struct {
	expressions                           []linear
	systems                               []system
	kind                                  int64
	codes                                 []int64
	value                                 frac
	free                                  []string
	text, systemText                      string
	read, valid, same, validS, sameItself bool
}

func resultsOf(s system, a, b linear, f frac, name, text string) equationResults {
	named, one := impl.NameLinear(name)
	sum, two := impl.AddLinear(a, b)
	product, three := impl.ScaleLinear(a, f)
	reduced, four := impl.ReduceLinear(s, a)
	next, kind, five := impl.Equate(s, a, b)
	value, six := impl.ValueOf(s, name)
	read, ok := impl.ReadLinear(text)
	return equationResults{[]linear{named, sum, product, reduced, read}, []system{next}, kind, []int64{one, two, three, four, five, six}, value, impl.FreeNames(s),
		impl.LinearText(a), impl.SystemText(s), ok, impl.ValidLinear(a), impl.SameLinear(a, b), impl.ValidSystem(s), impl.SameSystem(s, s)}
}

// checkZero holds everything that comes with an error to be 0.
func (r equationResults) checkZero(t *testing.T) {
	t.Helper()
	for i, code := range r.codes[:4] {
		if code != impl.OK {
			check(t, "expression with an error", show(r.expressions[i]), show(linear{}))
		}
	}
	if r.codes[4] != impl.OK {
		check(t, "system with an error", show(r.systems[0], r.kind), show(system{}, 0))
	}
	if r.codes[5] != impl.OK {
		check(t, "value with an error", r.value, frac{})
	}
	if !r.read {
		check(t, "expression with false", show(r.expressions[4]), show(linear{}))
	}
}

// TestEquationsTotal is promise 1 for chapter 5: all functions return for all arguments, twice alike.
func TestEquationsTotal(t *testing.T) {
	random := fixedRandom()
	systems, fracs, texts := append(goodSystems(), badSystems()...), append(badFracs(), smallFracs()...), append(oddTexts(), "1*a", "a", "b", "1*a + 1*b", "z")
	expressions := append(badLinears(), expr("0"), expr("1"), expr("1*a"), expr("1*z + 1000000000"), expr("-1*z"), sumOf(numbered("n", impl.MaxTerms)...), sumOf(numbered("r", impl.MaxTerms)...))
	long := make([]impl.Term, 100000)
	expressions = append(expressions, linear{Const: q(0, 1), Terms: long})
	systems = append(systems, system{Rows: make([]impl.Row, 100000)})
	for range 5000 {
		s, a, b := systems[random.Intn(len(systems))], expressions[random.Intn(len(expressions)-1)], expressions[random.Intn(len(expressions)-1)]
		f, name, text := fracs[random.Intn(len(fracs))], texts[random.Intn(len(texts))], texts[random.Intn(len(texts))]
		before := resultsOf(s, a, b, f, name, text)
		before.checkZero(t)
		if show(before) != show(resultsOf(s, a, b, f, name, text)) {
			t.Fatal("equal arguments have different results: ", s, a, b, f, name, text)
		}
	}
	endless := expressions[len(expressions)-1]
	resultsOf(systems[0], endless, endless, fracs[0], "a", "")
	resultsOf(rows("a = 1"), endless, expr("1"), q(1, 1), "a", "")
}

// roomy returns an expression with the same terms, behind which there is room that is not empty.
func roomy(x linear) linear {
	terms := append(slices.Clone(x.Terms), make([]impl.Term, 30)...)
	for i := range terms[len(x.Terms):] {
		terms[len(x.Terms)+i] = impl.Term{Name: "guard", Coef: q(77, 1)}
	}
	return linear{Const: x.Const, Terms: terms[:len(x.Terms)]}
}

func roomySystem(s system) system {
	list := make([]impl.Row, len(s.Rows)+30)
	for i, row := range s.Rows {
		list[i] = impl.Row{Name: row.Name, Value: roomy(row.Value)}
	}
	for i := len(s.Rows); i < len(list); i++ {
		list[i] = impl.Row{Name: "guard", Value: roomy(expr("1*guard"))}
	}
	return system{Rows: list[:len(s.Rows)]}
}

// everythingOf tells all memory of a system and of expressions, with the room behind their ends.
func everythingOf(s system, list ...linear) string {
	text := ""
	for _, row := range s.Rows[:cap(s.Rows)] {
		text += show(row.Name, row.Value.Const, row.Value.Terms[:cap(row.Value.Terms)])
	}
	for _, x := range list {
		text += show(x.Const, x.Terms[:cap(x.Terms)])
	}
	return text
}

// scribble overwrites all memory of an expression.
func scribble(x linear) {
	for i := range x.Terms[:cap(x.Terms)] {
		x.Terms[:cap(x.Terms)][i] = impl.Term{Name: "scribble", Coef: q(55, 1)}
	}
}

// TestEquationsKeepArguments is promise 1 for the memory of arguments and results.
func TestEquationsKeepArguments(t *testing.T) {
	cases := [][3]any{
		{system{}, expr("1*a + 1*b"), expr("10")}, {system{}, expr("0"), expr("1*a + 2*b + 3")}, {rows("a = -1*b + 10"), expr("1*a + -1*b"), expr("2")},
		{rows("a = -1*b + 10", "c = 1*z + 1"), expr("1*y"), expr("1*x")}, {rows("a = 1*z", "b = 1*z", "c = 1*y"), expr("2*z"), expr("1*x + 1*y")},
		{rows("a = 1*x + 2*y", "b = 1*z + 3*y"), expr("1*a"), expr("1*x + 2*y")}, {rows("a = 1*x + 2*y", "b = 1*z"), expr("1*z"), expr("1*b")},
	}
	for _, c := range cases {
		s, a, b := roomySystem(c[0].(system)), roomy(c[1].(linear)), roomy(c[2].(linear))
		before := everythingOf(s, a, b)
		first := show(resultsOf(s, a, b, q(1, 1), "a", ""))
		check(t, "arguments after all calls", everythingOf(s, a, b), before)
		got := resultsOf(s, a, b, q(1, 1), "a", "")
		for _, x := range got.expressions {
			scribble(x)
		}
		check(t, "arguments after results are overwritten", everythingOf(s, a, b), before)
		list := got.systems[0].Rows
		for i := range list {
			others := show(list[i+1:])
			scribble(list[i].Value)
			check(t, "the following rows after one is overwritten", show(list[i+1:]), others)
		}
		for i := range list[:cap(list)] {
			list[:cap(list)][i] = impl.Row{Name: "scribble"}
		}
		check(t, "arguments after rows are overwritten", everythingOf(s, a, b), before)
		check(t, "all results again", show(resultsOf(s, a, b, q(1, 1), "a", "")), first)
	}
}
