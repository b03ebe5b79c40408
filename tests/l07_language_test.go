package tests

import (
	"fmt"
	"maps"
	"math/rand"
	"regexp"
	"runtime"
	"slices"
	"strings"
	"testing"
	"time"

	"loop.example/g00883/impl"
)

type statement = impl.Statement

var keywords = []string{"anchor", "box", "cycle", "end", "erase", "fill", "glyph", "let", "part", "path", "pen", "round", "stroke", "with"}

// The forms of gaps and tokens, as the document describes them.
var (
	gapForm    = regexp.MustCompile(`^(?:[ \n]|%[^\n]*)*`)
	nameForm   = regexp.MustCompile(`^[a-z](?:[a-z0-9]|\.[a-z0-9])*`)
	numberForm = regexp.MustCompile(`^[0-9]+(?:/[0-9]+)?`)
	symbolForm = regexp.MustCompile(`^(?:\.\.|--|[;=+*-])`)
)

// wantedTokens is what ReadTokens has to return.
func wantedTokens(text string) ([]impl.Token, int64, int64) {
	var list []impl.Token
	for at := 0; ; {
		at += len(gapForm.FindString(text[at:]))
		rest := text[at:]
		if rest == "" {
			return list, int64(len(text)), impl.OK
		}
		if len(list) == impl.MaxTokens {
			return nil, int64(at), impl.ErrFull
		}
		token := impl.Token{At: int64(at)}
		ok := false
		if s := nameForm.FindString(rest); s != "" {
			token.Kind, token.Text, ok = impl.TkName, s, impl.IsName(s)
		} else if s := numberForm.FindString(rest); s != "" {
			token.Kind, token.Text = impl.TkNumber, s
			_, ok = impl.ReadFrac(s)
		} else if s := symbolForm.FindString(rest); s != "" {
			token.Kind, token.Text, ok = impl.TkSymbol, s, true
		}
		if !ok {
			return nil, int64(at), impl.ErrSyntax
		}
		list, at = append(list, token), at+len(token.Text)
	}
}

func TestLanguageConstants(t *testing.T) {
	got := []int{impl.TkName, impl.TkNumber, impl.TkSymbol, impl.StLet, impl.StEquation, impl.StPen, impl.StPath, impl.StFill, impl.StErase, impl.StStroke, impl.StGlyph, impl.StAnchor, impl.StPart, impl.StEnd, impl.MaxTokens, impl.MaxStatements}
	check(t, "constants", show(got), show([]int{1, 2, 3, 1, 2, 3, 4, 5, 6, 7, 8, 9, 10, 11, 600, 100}))
}

func TestReadTokens(t *testing.T) {
	cases := []struct {
		text, want string
		stop, code int64
	}{
		{"", "[]", 0, 0}, {" ", "[]", 1, 0}, {"\n \n", "[]", 3, 0}, {"%", "[]", 1, 0}, {"%%\n%", "[]", 4, 0}, {" % a ; \xff\t é %\n", "[]", 15, 0}, {"% a", "[]", 3, 0},
		{"p.x..q--3/4", "[{1 p.x 0} {3 .. 3} {1 q 5} {3 -- 6} {2 3/4 8}]", 11, 0}, {"a%b\nc", "[{1 a 0} {1 c 4}]", 5, 0}, {"a\nb", "[{1 a 0} {1 b 2}]", 3, 0},
		{";=+-*..--", "[{3 ; 0} {3 = 1} {3 + 2} {3 - 3} {3 * 4} {3 .. 5} {3 -- 7}]", 9, 0}, {"---", "[{3 -- 0} {3 - 2}]", 3, 0}, {"----", "[{3 -- 0} {3 -- 2}]", 4, 0}, {"- -", "[{3 - 0} {3 - 2}]", 3, 0},
		{"....", "[{3 .. 0} {3 .. 2}]", 4, 0}, {"a..b", "[{1 a 0} {3 .. 1} {1 b 3}]", 4, 0}, {"a.1.b2", "[{1 a.1.b2 0}]", 6, 0}, {"a ..", "[{1 a 0} {3 .. 2}]", 4, 0}, {"a..", "[{1 a 0} {3 .. 1}]", 3, 0}, {"1..2", "[{2 1 0} {3 .. 1} {2 2 3}]", 4, 0},
		{"2a", "[{2 2 0} {1 a 1}]", 2, 0}, {"2*a", "[{2 2 0} {3 * 1} {1 a 2}]", 3, 0}, {"a2", "[{1 a2 0}]", 2, 0}, {"let", "[{1 let 0}]", 3, 0}, {"0", "[{2 0 0}]", 1, 0},
		{"1000000000", "[{2 1000000000 0}]", 10, 0}, {"1/1000000", "[{2 1/1000000 0}]", 9, 0}, {"abcdefghijkl", "[{1 abcdefghijkl 0}]", 12, 0}, {"abcdefghij.l", "[{1 abcdefghij.l 0}]", 12, 0}, {"abcdefghijkl.", "[]", 12, 7}, {"abcdefghijkl..", "[{1 abcdefghijkl 0} {3 .. 12}]", 14, 0},
		{"a 2/4", "[]", 2, 7}, {"a. b", "[]", 1, 7}, {"a.", "[]", 1, 7}, {"a...b", "[]", 3, 7}, {"...", "[]", 2, 7}, {"a.;", "[]", 1, 7}, {"a.B", "[]", 1, 7}, {"a.%", "[]", 1, 7}, {"3/4/5", "[]", 3, 7}, {"3/", "[]", 1, 7}, {"3/a", "[]", 1, 7}, {"3 /4", "[]", 2, 7}, {"3/ 4", "[]", 1, 7}, {"3/-4", "[]", 1, 7},
		{"abcdefghijklm", "[]", 0, 7}, {" abcdefghijk.m", "[]", 1, 7}, {"007", "[]", 0, 7}, {"00", "[]", 0, 7}, {"1/1", "[]", 0, 7}, {"0/2", "[]", 0, 7}, {"1/0", "[]", 0, 7}, {"1/02", "[]", 0, 7}, {"1000000001", "[]", 0, 7}, {"1/1000001", "[]", 0, 7}, {"99999999999999999999999", "[]", 0, 7},
		{"a\tb", "[]", 1, 7}, {"a\r\n", "[]", 1, 7}, {"a\x00", "[]", 1, 7}, {"A", "[]", 0, 7}, {"a_b", "[]", 1, 7}, {"aB", "[]", 1, 7}, {"\u00e4", "[]", 0, 7}, {"a \u0661", "[]", 2, 7}, {"a\u00a0b", "[]", 1, 7}, {"% x\n ;%y\n  ,", "[]", 11, 7}, {".5", "[]", 0, 7}, {"/", "[]", 0, 7}, {"(", "[]", 0, 7}, {"a b c 1/1 2/2", "[]", 6, 7},
	}
	for _, c := range cases {
		list, stop, code := impl.ReadTokens(c.text)
		check(t, show("ReadTokens", c.text), show(fmt.Sprint(list), stop, code), show(c.want, c.stop, c.code))
		want, wanted, due := wantedTokens(c.text)
		check(t, show("wanted tokens", c.text), show(fmt.Sprint(want), wanted, due), show(c.want, c.stop, c.code))
	}
}

func TestReadTokensFull(t *testing.T) {
	for _, token := range []string{"a ", ";", "1 ", "..", "--", "a%\n"} {
		full := strings.Repeat(token, impl.MaxTokens)
		list, stop, code := impl.ReadTokens(full)
		check(t, "as many tokens as there may be", show(len(list), stop, code), show(impl.MaxTokens, len(full), impl.OK))
		for _, end := range []string{" ", "\n% a b 2/4", "% ;\n  \n"} {
			list, stop, code := impl.ReadTokens(full + end)
			check(t, "as many tokens, and "+end, show(len(list), stop, code), show(impl.MaxTokens, len(full+end), impl.OK))
		}
		for _, end := range []string{"a", ";", "?", "2/4", "abcdefghijklm"} {
			list, stop, code := impl.ReadTokens(full + "\n %\n" + end)
			check(t, "too many tokens with "+end, show(list, stop, code), show([]impl.Token(nil), len(full)+4, impl.ErrFull))
			list, stop, code = impl.ReadTokens(strings.Repeat(token, impl.MaxTokens-1) + "\n?" + end)
			check(t, "a fault in place of the last token", show(list, stop, code), show([]impl.Token(nil), len(full)-len(token)+1, impl.ErrSyntax))
		}
	}
}

// TestReadTokensBytes goes through all bytes, alone and behind and between others.
func TestReadTokensBytes(t *testing.T) {
	for b := range 256 {
		for _, form := range []string{"%s", "a%s", "1%s", ".%s", "-%s", "a.%s", "1/%s", "%sa", "%s1", "%s/2", "%%%s\n;", "a%sb", "7%s8", "a.%s.b", "%s%[1]s", "a%s%[1]sb"} {
			checkTokens(t, fmt.Sprintf(form, string([]byte{byte(b)})))
		}
	}
}

func checkTokens(t *testing.T, text string) int64 {
	t.Helper()
	list, stop, code := impl.ReadTokens(text)
	want, wanted, due := wantedTokens(text)
	check(t, show("ReadTokens", fmt.Sprintf("%q", text)), show(list, stop, code), show(want, wanted, due))
	return due
}

// TestReadTokensRandom holds the scanner against the forms of tokens in texts of their bytes.
func TestReadTokensRandom(t *testing.T) {
	random := fixedRandom()
	codes := map[int64]int{}
	pieces := []string{"a", "b", "z", "0", "1", "9", ".", ".", "..", "-", "--", "/", ";", "=", "+", "*", " ", "\n", "%", "% x\n", "a.x", "3/4", "2/4", "let", "abcdefghijkl", "abcdefghij", "?", "A", "\t"}
	for i := range 30000 {
		text := ""
		for range random.Intn(1 + i%12) {
			text += pieces[random.Intn(len(pieces)-3*random.Intn(2))]
		}
		codes[checkTokens(t, text)]++
	}
	if codes[impl.OK] < 5000 || codes[impl.ErrSyntax] < 5000 {
		t.Error("the random texts are too much alike: ", codes)
	}
}

func TestIsKeyword(t *testing.T) {
	for _, word := range keywords {
		check(t, "IsKeyword "+word, impl.IsKeyword(word), true)
		check(t, word+" is a name", impl.IsName(word), true)
		for _, other := range []string{word + "s", word[1:], word[:len(word)-1], word + ".x", word + " ", " " + word, strings.ToUpper(word), word + "."} {
			check(t, "IsKeyword "+other, impl.IsKeyword(other), slices.Contains(keywords, other))
		}
	}
	for _, word := range append(oddTexts(), "a", "x", ";", "..", "--", "tokens", "lines", "curve", "line", "name", "move") {
		check(t, "IsKeyword "+word, impl.IsKeyword(word), false)
	}
}

// freeNames are names that are no keywords and that are tokens; the first ones may be those of points.
var freeNames = []string{"a", "b", "c", "a.x", "p.0.q", "z9", "lets", "en", "o.1", "abcdefghij", "x.path", "with2", "abcdefghijk", "cycle.cycle", "abcdefghijkl"}

const pointNames = 12

// used tells which fields a kind of statements uses besides its Name, and how many points and numbers it has.
type used struct {
	name, other, left, right, way bool
	points, numbers               [2]int
}

func fieldsOf(kind int64) (used, bool) {
	table := map[int64]used{
		impl.StLet: {name: true, left: true}, impl.StEquation: {left: true, right: true}, impl.StPen: {name: true, numbers: [2]int{1, 2}}, impl.StPath: {name: true, way: true, points: [2]int{2, 10}},
		impl.StFill: {name: true}, impl.StErase: {name: true}, impl.StStroke: {name: true, other: true}, impl.StGlyph: {name: true, numbers: [2]int{2, 2}},
		impl.StAnchor: {name: true, points: [2]int{1, 1}}, impl.StPart: {name: true, numbers: [2]int{2, 2}}, impl.StEnd: {},
	}
	fields, ok := table[kind]
	return fields, ok
}

// wantedValid is what ValidStatement has to return.
func wantedValid(s statement) bool {
	fields, ok := fieldsOf(s.Kind)
	name := func(text string, due bool) bool {
		return due && impl.IsName(text) && !slices.Contains(keywords, text) || !due && text == ""
	}
	expression := func(x linear, due bool) bool {
		hasKeyword := slices.ContainsFunc(x.Terms, func(term impl.Term) bool { return slices.Contains(keywords, term.Name) })
		return due && impl.ValidLinear(x) && !hasKeyword || !due && x.Const == (frac{}) && len(x.Terms) == 0
	}
	ok = ok && name(s.Name, fields.name) && name(s.Other, fields.other) && expression(s.Left, fields.left) && expression(s.Right, fields.right)
	ok = ok && len(s.Points) >= fields.points[0] && len(s.Points) <= fields.points[1] && len(s.Numbers) >= fields.numbers[0] && len(s.Numbers) <= fields.numbers[1]
	for _, point := range s.Points {
		ok = ok && name(point, true) && len(point) <= 10
	}
	for _, n := range s.Numbers {
		ok = ok && n >= -1000000000 && n <= 1000000000
	}
	return ok && (fields.way || !s.Curved && !s.Closed) && (!s.Closed || len(s.Points) > 2) && (s.Kind != impl.StLet || len(s.Left.Terms) == 0)
}

// goodStatements returns statements of all kinds, with their texts.
func goodStatements() map[string]statement {
	ten := numbered("abcdefgh", 10)
	names := numbered("n", 12)
	return map[string]statement{
		"let w = 1/2 ;":                            {Kind: impl.StLet, Name: "w", Left: expr("1/2")},
		"let abcdefghijkl = -1000000000 ;":         {Kind: impl.StLet, Name: "abcdefghijkl", Left: expr("-1000000000")},
		"let w = 0 ;":                              {Kind: impl.StLet, Name: "w", Left: expr("0")},
		"1*stem = 2*a + -1*b + 3 ;":                {Kind: impl.StEquation, Left: expr("1*stem"), Right: expr("2*a + -1*b + 3")},
		"0 = -1/1000000 ;":                         {Kind: impl.StEquation, Left: expr("0"), Right: expr("-1/1000000")},
		"-3/2*a.x + 1000000000*abcdefghijkl = 5 ;": {Kind: impl.StEquation, Left: expr("-3/2*a.x + 1000000000*abcdefghijkl"), Right: expr("5")},
		impl.LinearText(sumOf(names...)) + " = " + impl.LinearText(sumOf(names...)) + " ;": {Kind: impl.StEquation, Left: sumOf(names...), Right: sumOf(names...)},
		"pen nib box 5 -3 ;":                                  {Kind: impl.StPen, Name: "nib", Numbers: []int64{5, -3}},
		"pen nib box 1000000000 -1000000000 ;":                {Kind: impl.StPen, Name: "nib", Numbers: []int64{1000000000, -1000000000}},
		"pen nib round 0 ;":                                   {Kind: impl.StPen, Name: "nib", Numbers: []int64{0}},
		"pen nib round -7 ;":                                  {Kind: impl.StPen, Name: "nib", Numbers: []int64{-7}},
		"path o a .. b .. c .. cycle ;":                       {Kind: impl.StPath, Name: "o", Points: []string{"a", "b", "c"}, Curved: true, Closed: true},
		"path o a -- b -- c -- cycle ;":                       {Kind: impl.StPath, Name: "o", Points: []string{"a", "b", "c"}, Closed: true},
		"path o a .. a ;":                                     {Kind: impl.StPath, Name: "o", Points: []string{"a", "a"}, Curved: true},
		"path o a.1 -- b ;":                                   {Kind: impl.StPath, Name: "o", Points: []string{"a.1", "b"}},
		"path o " + strings.Join(ten, " .. ") + " ;":          {Kind: impl.StPath, Name: "o", Points: ten, Curved: true},
		"path o " + strings.Join(ten, " -- ") + " -- cycle ;": {Kind: impl.StPath, Name: "o", Points: ten, Closed: true},
		"fill o ;":              {Kind: impl.StFill, Name: "o"},
		"erase o.2 ;":           {Kind: impl.StErase, Name: "o.2"},
		"stroke o with nib ;":   {Kind: impl.StStroke, Name: "o", Other: "nib"},
		"stroke a with a ;":     {Kind: impl.StStroke, Name: "a", Other: "a"},
		"glyph a 97 500 ;":      {Kind: impl.StGlyph, Name: "a", Numbers: []int64{97, 500}},
		"glyph a.alt -1 -2 ;":   {Kind: impl.StGlyph, Name: "a.alt", Numbers: []int64{-1, -2}},
		"anchor top a ;":        {Kind: impl.StAnchor, Name: "top", Points: []string{"a"}},
		"anchor a abcdefghij ;": {Kind: impl.StAnchor, Name: "a", Points: []string{"abcdefghij"}},
		"part acute 0 -20 ;":    {Kind: impl.StPart, Name: "acute", Numbers: []int64{0, -20}},
		"end ;":                 {Kind: impl.StEnd},
	}
}

// badStatements returns statements that are not valid, for each reason.
func badStatements() []statement {
	eleven := append(inNames(10), "z")
	list := []statement{
		{}, {Kind: -1}, {Kind: 12}, {Kind: 12, Name: "a"}, {Kind: 1 << 40, Name: "a"}, {Name: "a"},
		{Kind: impl.StLet, Left: expr("1")}, {Kind: impl.StLet, Name: "a"}, {Kind: impl.StLet, Name: "a", Left: expr("1*b")}, {Kind: impl.StLet, Name: "a", Left: expr("1*b + 2")}, {Kind: impl.StLet, Name: "a", Right: expr("1")},
		{Kind: impl.StLet, Name: "let", Left: expr("1")}, {Kind: impl.StLet, Name: "A", Left: expr("1")}, {Kind: impl.StLet, Name: "abcdefghijklm", Left: expr("1")}, {Kind: impl.StLet, Name: "a", Left: expr("1000000001")}, {Kind: impl.StLet, Name: "a", Left: linear{Const: q(2, 4)}},
		{Kind: impl.StEquation}, {Kind: impl.StEquation, Left: expr("1*a")}, {Kind: impl.StEquation, Right: expr("1*a")}, {Kind: impl.StEquation, Left: expr("1*a"), Right: expr("1*pen")}, {Kind: impl.StEquation, Left: expr("1*a + 1*box + 1*c"), Right: expr("1")},
		{Kind: impl.StEquation, Left: sumOf(inNames(13)...), Right: expr("1")}, {Kind: impl.StEquation, Left: expr("1"), Right: sumOf(inNames(13)...)}, {Kind: impl.StEquation, Left: expr("1*b + 1*a"), Right: expr("1")}, {Kind: impl.StEquation, Left: expr("0*a"), Right: expr("1")},
		{Kind: impl.StPen, Name: "a"}, {Kind: impl.StPen, Name: "a", Numbers: []int64{1, 2, 3}}, {Kind: impl.StPen, Name: "a", Numbers: []int64{1000000001}}, {Kind: impl.StPen, Name: "a", Numbers: []int64{1, -1000000001}}, {Kind: impl.StPen, Numbers: []int64{1}}, {Kind: impl.StPen, Name: "round", Numbers: []int64{1}},
		{Kind: impl.StPath, Name: "o"}, {Kind: impl.StPath, Name: "o", Points: []string{"a"}}, {Kind: impl.StPath, Name: "o", Points: []string{"a"}, Curved: true}, {Kind: impl.StPath, Name: "o", Points: []string{"a", "b"}, Closed: true}, {Kind: impl.StPath, Name: "o", Points: []string{"a", "b"}, Closed: true, Curved: true},
		{Kind: impl.StPath, Name: "o", Points: eleven}, {Kind: impl.StPath, Name: "o", Points: eleven, Closed: true}, {Kind: impl.StPath, Name: "o", Points: []string{"a", "cycle"}}, {Kind: impl.StPath, Name: "o", Points: []string{"abcdefghijk", "a"}}, {Kind: impl.StPath, Name: "o", Points: []string{"a", ""}}, {Kind: impl.StPath, Name: "o", Points: []string{"a", "B"}}, {Kind: impl.StPath, Points: []string{"a", "b"}},
		{Kind: impl.StFill}, {Kind: impl.StFill, Name: "fill"}, {Kind: impl.StFill, Name: "a b"}, {Kind: impl.StErase}, {Kind: impl.StErase, Name: "1"},
		{Kind: impl.StStroke}, {Kind: impl.StStroke, Name: "a"}, {Kind: impl.StStroke, Other: "a"}, {Kind: impl.StStroke, Name: "a", Other: "with"}, {Kind: impl.StStroke, Name: "with", Other: "a"},
		{Kind: impl.StGlyph, Name: "a"}, {Kind: impl.StGlyph, Name: "a", Numbers: []int64{1}}, {Kind: impl.StGlyph, Name: "a", Numbers: []int64{1, 2, 3}}, {Kind: impl.StGlyph, Numbers: []int64{1, 2}}, {Kind: impl.StGlyph, Name: "a", Numbers: []int64{1, 1 << 62}},
		{Kind: impl.StAnchor, Name: "a"}, {Kind: impl.StAnchor, Name: "a", Points: []string{"a", "b"}}, {Kind: impl.StAnchor, Name: "a", Points: []string{"abcdefghijk"}}, {Kind: impl.StAnchor, Points: []string{"a"}}, {Kind: impl.StAnchor, Name: "a", Points: []string{"end"}},
		{Kind: impl.StPart, Name: "a"}, {Kind: impl.StPart, Name: "a", Numbers: []int64{1}}, {Kind: impl.StPart, Name: "a", Numbers: []int64{1, 2, 3}}, {Kind: impl.StPart, Name: "part", Numbers: []int64{1, 2}}, {Kind: impl.StEnd, Name: "end"},
	}
	return append(list, badLets()...)
}

// badLets have each bad expression in the place of a good one.
func badLets() []statement {
	var list []statement
	for _, x := range badLinears() {
		list = append(list, statement{Kind: impl.StLet, Name: "a", Left: x}, statement{Kind: impl.StEquation, Left: x, Right: expr("1")}, statement{Kind: impl.StEquation, Left: expr("1"), Right: x})
	}
	return list
}

func inNames(count int) []string { return numbered("p", count) }

func TestValidStatement(t *testing.T) {
	for text, s := range goodStatements() {
		check(t, "valid: "+text, impl.ValidStatement(s), true)
		check(t, "wanted: "+text, wantedValid(s), true)
	}
	for _, s := range badStatements() {
		check(t, show("valid: ", s), impl.ValidStatement(s), false)
		check(t, show("wanted: ", s), wantedValid(s), false)
		check(t, "text of a statement that is not valid", impl.StatementText(s), "")
	}
	for _, word := range keywords {
		for _, s := range []statement{{Kind: impl.StFill, Name: word}, {Kind: impl.StStroke, Name: "a", Other: word}, {Kind: impl.StEquation, Left: expr("1*" + word), Right: expr("1")}, {Kind: impl.StEquation, Left: expr("1"), Right: expr("2*" + word)}, {Kind: impl.StPath, Name: "o", Points: []string{"a", word, "b"}}} {
			check(t, show("valid: ", s), impl.ValidStatement(s), false)
		}
	}
	// By the words of the document a name of chapter 1 suffices, even if it is no token.
	check(t, "valid with a dot at the end", impl.ValidStatement(statement{Kind: impl.StFill, Name: "a."}), true)
}

// changes returns copies of a statement with one field changed.
func changes(s statement) []statement {
	list := []statement{}
	change := func(do func(c *statement)) {
		c := s
		c.Points, c.Numbers = slices.Clone(s.Points), slices.Clone(s.Numbers)
		do(&c)
		list = append(list, c)
	}
	for kind := range int64(13) {
		change(func(c *statement) { c.Kind = kind })
	}
	for _, name := range []string{"", "a", "let", "cycle", "abcdefghijk", "abcdefghijklm", "a!"} {
		change(func(c *statement) { c.Name = name })
		change(func(c *statement) { c.Other = name })
		change(func(c *statement) { c.Points = append(c.Points, name) })
		if len(s.Points) > 0 {
			change(func(c *statement) { c.Points[len(c.Points)-1] = name })
			change(func(c *statement) { c.Points[0] = name })
		}
	}
	for _, x := range []linear{{}, expr("0"), expr("1*a + 2"), expr("1*end"), {Const: q(2, 2)}, {Terms: expr("1*a").Terms}} {
		change(func(c *statement) { c.Left = x })
		change(func(c *statement) { c.Right = x })
	}
	for _, n := range []int64{0, 5, 1000000000, 1000000001, -1000000000, -1000000001} {
		change(func(c *statement) { c.Numbers = append(c.Numbers, n) })
		if len(s.Numbers) > 0 {
			change(func(c *statement) { c.Numbers[len(c.Numbers)-1] = n })
			change(func(c *statement) { c.Numbers[0] = n })
		}
	}
	change(func(c *statement) { c.Points = c.Points[:max(0, len(c.Points)-1)] })
	change(func(c *statement) { c.Numbers = c.Numbers[:max(0, len(c.Numbers)-1)] })
	change(func(c *statement) { c.Points, c.Numbers = []string{}, []int64{} })
	change(func(c *statement) { c.Curved = !c.Curved })
	change(func(c *statement) { c.Closed = !c.Closed })
	return list
}

// TestValidStatementChanged changes each field of valid statements, once and twice.
func TestValidStatementChanged(t *testing.T) {
	counts := map[bool]int{}
	for _, s := range goodStatements() {
		for _, c := range changes(s) {
			check(t, show("valid: ", c), impl.ValidStatement(c), wantedValid(c))
			counts[wantedValid(c)]++
			if !wantedValid(c) {
				check(t, "text of a statement that is not valid", impl.StatementText(c), "")
			}
			for _, d := range changes(c) {
				if impl.ValidStatement(d) != wantedValid(d) {
					t.Errorf("ValidStatement of %+v: not %v", d, wantedValid(d))
				}
			}
		}
	}
	if counts[true] < 200 || counts[false] < 1000 {
		t.Error("the changed statements are too much alike: ", counts)
	}
}

func TestSameStatement(t *testing.T) {
	full := statement{Kind: 3, Name: "a", Other: "b", Left: expr("1*a + 2"), Right: expr("1*b"), Points: []string{"p", "q"}, Numbers: []int64{1, 2}, Curved: true, Closed: true}
	list := []statement{full, {}}
	for _, do := range []func(c *statement){
		func(c *statement) { c.Kind = 4 }, func(c *statement) { c.Name = "b" }, func(c *statement) { c.Other = "a" },
		func(c *statement) { c.Left = expr("1*a + 3") }, func(c *statement) { c.Left = expr("2*a + 2") }, func(c *statement) { c.Left = expr("2") }, func(c *statement) { c.Right = expr("1*c") }, func(c *statement) { c.Right = linear{Terms: c.Right.Terms} },
		func(c *statement) { c.Points = []string{"p"} }, func(c *statement) { c.Points = []string{"q", "p"} }, func(c *statement) { c.Points = []string{"p", "q", ""} }, func(c *statement) { c.Points = nil },
		func(c *statement) { c.Numbers = []int64{1} }, func(c *statement) { c.Numbers = []int64{2, 1} }, func(c *statement) { c.Numbers = []int64{1, 2, 0} }, func(c *statement) { c.Numbers = nil },
		func(c *statement) { c.Curved = false }, func(c *statement) { c.Closed = false },
	} {
		c := full
		do(&c)
		list = append(list, c)
	}
	for i, a := range list {
		for j, b := range list {
			check(t, show("SameStatement", a, b), impl.SameStatement(a, b), i == j)
		}
		b := a
		b.Points, b.Numbers, b.Left.Terms, b.Right.Terms = slices.Clone(a.Points), slices.Clone(a.Numbers), slices.Clone(a.Left.Terms), slices.Clone(a.Right.Terms)
		check(t, "SameStatement in other memory", impl.SameStatement(a, b), true)
	}
	empty := statement{Left: linear{Terms: []impl.Term{}}, Right: linear{Terms: []impl.Term{}}, Points: []string{}, Numbers: []int64{}}
	check(t, "SameStatement with empty slices", impl.SameStatement(empty, statement{}) && impl.SameStatement(statement{}, empty), true)
}

func TestStatementTexts(t *testing.T) {
	for text, s := range goodStatements() {
		check(t, "StatementText", impl.StatementText(s), text)
		got, code := impl.ReadStatement(text)
		check(t, show("ReadStatement", text), show(got, code), show(s, impl.OK))
		check(t, "SameStatement of what is read", impl.SameStatement(got, s), true)
	}
}

func TestReadStatement(t *testing.T) {
	terms, sum := strings.Join(inNames(12), "+"), impl.LinearText(sumOf(inNames(12)...))
	const b = "1000000000*b"
	cases := []struct {
		text, want string
		code       int64
	}{
		{"stem=2*a-b+3; % note", "1*stem = 2*a + -1*b + 3 ;", 0}, {"path o a..b..c..cycle;", "path o a .. b .. c .. cycle ;", 0}, {"path o a--b ;", "path o a -- b ;", 0},
		{"pen nib round 5 ;", "pen nib round 5 ;", 0}, {"pen nib round - 0;", "pen nib round 0 ;", 0}, {"pen nib box -0 - 3;", "pen nib box 0 -3 ;", 0}, {"pen nib box-1-2;", "pen nib box -1 -2 ;", 0}, {"pen nib round 1000000000;", "pen nib round 1000000000 ;", 0},
		{"let w=3--1;", "", 7}, {"let w=3- -1;", "let w = 4 ;", 0}, {"let w=3+-1;", "let w = 2 ;", 0}, {"let w=-1/2;", "let w = -1/2 ;", 0}, {"let w=b-b;", "let w = 0 ;", 0}, {"let w=0*b+1/3;", "let w = 1/3 ;", 0}, {"let w=b+1-b;", "let w = 1 ;", 0},
		{"let w=b;", "", 7}, {"let w=1", "", 7}, {"let w;", "", 7}, {"let =1;", "", 7}, {"let w=;", "", 7}, {"let let=1;", "", 7}, {"let w.x=1;", "let w.x = 1 ;", 0}, {"let w 1;", "", 7}, {"let w==1;", "", 7}, {"w=1;", "1*w = 1 ;", 0}, {"let 1=w;", "", 7}, {"let w=1=1;", "", 7},
		{"let w=" + b + "+" + b + ";", "", 2}, {"let w=" + b + "+" + b, "", 7}, {"let w=" + b + "+" + b + ";;", "", 7}, {"let w=" + b + "+" + b + "-c;", "", 2}, {"let w=" + b + "+" + b + "-let;", "", 7}, {"let w=" + b + "-" + b + ";", "let w = 0 ;", 0}, {"let w=1000000000+1-1;", "", 2}, {"let w=1-1+1000000000;", "let w = 1000000000 ;", 0},
		{"a=" + b + "+" + b + ";", "", 2}, {b + "+" + b + "=a;", "", 2}, {b + "+" + b + "=a", "", 7}, {b + "+" + b + "=2/4;", "", 7}, {b + "+" + b + "=?", "", 7}, {"-" + b + "-" + b + "=a;", "", 2}, {"- -" + b + "=a;", "", 7}, {"a=" + b + "--" + b + ";", "", 7}, {"a=-" + b + "- -" + b + ";", "1*a = 0 ;", 0},
		{terms + "=0;", sum + " = 0 ;", 0}, {terms + "+q=0;", "", 5}, {"0=" + terms + "+q;", "", 5}, {terms + "+q-q=0;", "", 5}, {terms + "-q+q=0;", "", 5}, {terms + "-p10+q=0;", impl.LinearText(sumOf(append(inNames(12)[1:], "q")...)) + " = 0 ;", 0}, {terms + "+0*q=0;", sum + " = 0 ;", 0},
		{terms + "+q=" + b + "+" + b + ";", "", 5}, {b + "+" + b + "=" + terms + "+q;", "", 2}, {terms + "+q+" + b + "+" + b + "=0;", "", 5}, {b + "+" + b + "+" + terms + "+q=0;", "", 2}, {terms + "+q=let;", "", 7}, {terms + "+q=a.", "", 7}, {terms + "+q=" + strings.Repeat("a+", 600), "", 5},
		{"a=1/3+1/999983;", "", 2}, {"1/2*a+1/3*a=a-1/2;", "5/6*a = 1*a + -1/2 ;", 0}, {"b+a=1;", "1*a + 1*b = 1 ;", 0}, {"0=0;", "0 = 0 ;", 0}, {"-0=-0*a;", "0 = 0 ;", 0}, {"a=b+-c- -d;", "1*a = 1*b + -1*c + 1*d ;", 0}, {"a=3*-b;", "", 7}, {"a=b*3;", "", 7}, {"a=3 b;", "", 7}, {"a=3*4;", "", 7}, {"a=+3;", "", 7}, {"a=3+;", "", 7}, {"a=b c;", "", 7}, {"a=1/2b;", "", 7}, {"a=- -b;", "", 7}, {"a=b- - -c;", "", 7}, {"a=b-+c;", "", 7},
		{"a=;", "", 7}, {"=a;", "", 7}, {"a;", "", 7}, {"a=b=c;", "", 7}, {"", "", 7}, {"%", "", 7}, {";", "", 7}, {"end", "", 7}, {"end;", "end ;", 0}, {"end;end;", "", 7}, {"end;;", "", 7}, {"end a;", "", 7}, {";end;", "", 7}, {"end 1;", "", 7}, {"box = 3;", "", 7}, {"3=box;", "", 7}, {"cycle=3;", "", 7}, {"a=3*round;", "", 7}, {"with a;", "", 7}, {"cycle;", "", 7}, {"round 5;", "", 7},
		{"pen nib box 5;", "", 7}, {"pen nib round 5 6;", "", 7}, {"pen nib 5;", "", 7}, {"pen nib box 1 2 3;", "", 7}, {"pen nib round;", "", 7}, {"pen nib round 1/2;", "", 7}, {"pen nib box 1 1/2;", "", 7}, {"pen nib round --5;", "", 7}, {"pen nib round - -5;", "", 7}, {"pen nib round +5;", "", 7}, {"pen nib round a;", "", 7}, {"pen round 5;", "", 7}, {"pen nib square 5;", "", 7}, {"pen pen round 5;", "", 7}, {"pen nib round 1000000001;", "", 7}, {"pen nib round 2+3;", "", 7},
		{"path o a;", "", 7}, {"path o;", "", 7}, {"path o a..;", "", 7}, {"path o a..b--c;", "", 7}, {"path o a--b..c;", "", 7}, {"path o a..b--cycle;", "", 7}, {"path o a..cycle;", "", 7}, {"path o a..b..cycle;", "", 7}, {"path o a..cycle..b..c;", "", 7}, {"path o cycle..a..b;", "", 7}, {"path o a..b..cycle..cycle;", "", 7}, {"path o a b;", "", 7}, {"path a..b;", "", 7}, {"path o a..b..c..;", "", 7}, {"path o a..b..let;", "", 7}, {"path o a..1;", "", 7}, {"path o ..a..b;", "", 7}, {"path o a....b;", "", 7}, {"path fill a..b;", "", 7}, {"path o a-b;", "", 7}, {"path o a- -b;", "", 7},
		{"path o a.b..c.d;", "path o a.b .. c.d ;", 0}, {"path o a--b--cycle;", "", 7}, {"path o a--b--a--cycle;", "path o a -- b -- a -- cycle ;", 0}, {"path o abcdefghij..a;", "path o abcdefghij .. a ;", 0}, {"path o abcdefghijk..a;", "", 7}, {"path abcdefghijkl a..a;", "path abcdefghijkl a .. a ;", 0}, {"path o a..b..abcdefghijkl;", "", 7},
		{"path o " + strings.Join(inNames(10), "..") + ";", "path o " + strings.Join(inNames(10), " .. ") + " ;", 0}, {"path o " + strings.Join(inNames(11), "..") + ";", "", 7}, {"path o " + strings.Join(inNames(10), "--") + "--cycle;", "path o " + strings.Join(inNames(10), " -- ") + " -- cycle ;", 0}, {"path o " + strings.Join(inNames(250), "--") + ";", "", 7},
		{"fill o;", "fill o ;", 0}, {"fill;", "", 7}, {"fill fill;", "", 7}, {"fill a b;", "", 7}, {"fill 1;", "", 7}, {"erase o;", "erase o ;", 0}, {"erase;", "", 7}, {"erase with;", "", 7}, {"fill -a;", "", 7},
		{"stroke a with b;", "stroke a with b ;", 0}, {"stroke a b;", "", 7}, {"stroke a with;", "", 7}, {"stroke with b;", "", 7}, {"stroke a with with;", "", 7}, {"stroke a with b c;", "", 7}, {"stroke a withb;", "", 7}, {"stroke 1 with b;", "", 7},
		{"glyph a 97 500;", "glyph a 97 500 ;", 0}, {"glyph a 97 -500;", "glyph a 97 -500 ;", 0}, {"glyph a 97-500;", "glyph a 97 -500 ;", 0}, {"glyph a 97;", "", 7}, {"glyph a 97 500 1;", "", 7}, {"glyph a 97 1/2;", "", 7}, {"glyph 97 500;", "", 7}, {"glyph glyph 1 2;", "", 7}, {"glyph a 97 b;", "", 7}, {"glyph a 97 500", "", 7},
		{"anchor top p;", "anchor top p ;", 0}, {"anchor top;", "", 7}, {"anchor top p q;", "", 7}, {"anchor top abcdefghijk;", "", 7}, {"anchor abcdefghijk p;", "anchor abcdefghijk p ;", 0}, {"anchor top end;", "", 7}, {"anchor top 1 2;", "", 7}, {"part e 0 -20;", "part e 0 -20 ;", 0}, {"part e 0;", "", 7}, {"part e 0 0 0;", "", 7}, {"part 1 2;", "", 7},
	}
	for _, c := range cases {
		got, code := impl.ReadStatement(c.text)
		want, due := wantedStatement(c.text)
		check(t, show("ReadStatement", c.text), show(got, code), show(want, due))
		check(t, show("text and code of ", c.text), show(impl.StatementText(got), code), show(c.want, c.code))
	}
}

// The forms of statements, in which all free names are n, all integers i and all other numbers f.
const (
	partsForm   = `(?:- )?(?:n|[if](?: \* n)?)`
	linearForm  = partsForm + `(?: [-+] ` + partsForm + `)*`
	integerForm = `(?:- )?i`
)

func statementForms() map[int64]*regexp.Regexp {
	forms := map[int64]string{
		impl.StLet: "let n = " + linearForm, impl.StEquation: linearForm + " = " + linearForm, impl.StPen: "pen n (?:box " + integerForm + " " + integerForm + "|round " + integerForm + ")",
		impl.StPath: `path n n(?:(?: \.\. n)+(?: \.\. cycle)?|(?: -- n)+(?: -- cycle)?)`, impl.StFill: "fill n", impl.StErase: "erase n", impl.StStroke: "stroke n with n",
		impl.StGlyph: "glyph n " + integerForm + " " + integerForm, impl.StAnchor: "anchor n n", impl.StPart: "part n " + integerForm + " " + integerForm, impl.StEnd: "end",
	}
	compiled := map[int64]*regexp.Regexp{}
	for kind, form := range forms {
		compiled[kind] = regexp.MustCompile("^" + form + " ;$")
	}
	return compiled
}

var compiledForms = statementForms()

// classOf tells what a token is in the forms.
func classOf(token impl.Token) string {
	switch {
	case token.Kind == impl.TkName && !slices.Contains(keywords, token.Text):
		return "n"
	case token.Kind == impl.TkNumber && strings.Contains(token.Text, "/"):
		return "f"
	case token.Kind == impl.TkNumber:
		return "i"
	default:
		return token.Text
	}
}

// wantedStatement is what ReadStatement has to return.
func wantedStatement(text string) (statement, int64) {
	tokens, _, code := wantedTokens(text)
	if code != impl.OK {
		return statement{}, code
	}
	return statementOf(tokens)
}

func statementOf(tokens []impl.Token) (statement, int64) {
	var classes []string
	for _, token := range tokens {
		classes = append(classes, classOf(token))
	}
	for kind, form := range compiledForms {
		if form.MatchString(strings.Join(classes, " ")) {
			return filledStatement(kind, tokens)
		}
	}
	return statement{}, impl.ErrSyntax
}

// filledStatement returns the statement of tokens that have the form of a kind.
func filledStatement(kind int64, tokens []impl.Token) (statement, int64) {
	fields, _ := fieldsOf(kind)
	s := statement{Kind: kind}
	if fields.left {
		sides := [][]impl.Token{nil}
		for _, token := range tokens {
			if token.Text == "=" {
				sides = append(sides, nil)
			} else {
				sides[len(sides)-1] = append(sides[len(sides)-1], token)
			}
		}
		if kind == impl.StLet {
			s.Name, sides = sides[0][1].Text, sides[1:]
		}
		code := int64(impl.OK)
		s.Left, code = sumOfTokens(sides[0])
		if code == impl.OK && fields.right {
			s.Right, code = sumOfTokens(sides[1])
		}
		if code != impl.OK {
			return statement{}, code
		}
	} else {
		s = listedFields(kind, tokens, fields)
	}
	if !wantedValid(s) {
		return statement{}, impl.ErrSyntax
	}
	return s, impl.OK
}

// listedFields returns the statement whose fields are its names and numbers in their order.
func listedFields(kind int64, tokens []impl.Token, fields used) statement {
	s := statement{Kind: kind}
	var names []string
	for i, token := range tokens {
		switch classOf(token) {
		case "n":
			names = append(names, token.Text)
		case "i":
			f, _ := impl.ReadFrac(token.Text)
			if tokens[i-1].Text == "-" {
				f.Num = -f.Num
			}
			s.Numbers = append(s.Numbers, f.Num)
		case "..":
			s.Curved = true
		case "cycle":
			s.Closed = true
		}
	}
	if fields.name {
		s.Name, names = names[0], names[1:]
	}
	if fields.other {
		s.Other, names = names[0], names[1:]
	}
	s.Points = names
	return s
}

// sumOfTokens adds the parts of a LINEAR, from left to right.
func sumOfTokens(tokens []impl.Token) (linear, int64) {
	sum, sign := expr("0"), int64(1)
	for i, token := range tokens {
		number, part := q(1, 1), linear{Const: q(0, 1)}
		switch {
		case token.Text == "+":
			sign = 1
			continue
		case token.Text == "-":
			sign = -sign
			continue
		case token.Text == "*" || token.Text == ";" || i+1 < len(tokens) && tokens[i+1].Text == "*":
			continue
		case token.Kind == impl.TkNumber:
			part.Const, _ = impl.ReadFrac(token.Text)
			part.Const.Num *= sign
		default:
			if i > 0 && tokens[i-1].Text == "*" {
				number, _ = impl.ReadFrac(tokens[i-2].Text)
			}
			if number.Num != 0 {
				part.Terms = []impl.Term{{Name: token.Text, Coef: q(sign*number.Num, number.Den)}}
			}
		}
		next, code := exactAdd(sum, part)
		if code != impl.OK {
			return linear{}, code
		}
		sum, sign = next, 1
	}
	return sum, impl.OK
}

func pick[T any](random *rand.Rand, list []T) T { return list[random.Intn(len(list))] }

// randomStatement returns a valid statement.
func randomStatement(random *rand.Rand) statement {
	numbers := []frac{q(1, 1), q(-1, 1), q(2, 1), q(-1, 2), q(3, 7), q(most, 1), q(-most, 999999), q(1, 1000000), q(0, 1)}
	integers := []int64{0, 1, -1, 97, -500, most, -most}
	s := statement{Kind: 1 + random.Int63n(11)}
	fields, _ := fieldsOf(s.Kind)
	if fields.name {
		s.Name = pick(random, freeNames)
	}
	if fields.other {
		s.Other = pick(random, freeNames)
	}
	terms := 0
	if fields.right {
		terms = []int{0, 1, 3, 12}[random.Intn(4)]
		s.Right = randomLinear(random, append(numbered("t", 20), freeNames...), numbers, terms)
	}
	if fields.left {
		s.Left = randomLinear(random, append(numbered("t", 20), freeNames...), numbers, terms)
	}
	if fields.way {
		s.Curved, s.Closed = random.Intn(2) == 0, random.Intn(2) == 0
	}
	for range fields.points[0] + random.Intn(fields.points[1]-fields.points[0]+1) {
		s.Points = append(s.Points, pick(random, freeNames[:pointNames]))
	}
	if s.Closed && len(s.Points) < 3 {
		s.Points = append(s.Points, "a")
	}
	for range fields.numbers[0] + random.Intn(fields.numbers[1]-fields.numbers[0]+1) {
		s.Numbers = append(s.Numbers, pick(random, integers))
	}
	return s
}

// tokenTexts returns the texts of the tokens of a text.
func tokenTexts(text string) []string {
	var list []string
	tokens, _, _ := wantedTokens(text)
	for _, token := range tokens {
		list = append(list, token.Text)
	}
	return list
}

// laidOut writes tokens with other gaps between them; without any, where they do not grow together.
func laidOut(random *rand.Rand, tokens []string) string {
	gaps := []string{" ", "\n", "  ", "% a ; = 1\n", " %\n\n ", "\n%%;\n", " % \t\xff ?\n"}
	text := pick(random, append(gaps, "", ""))
	for i, token := range tokens {
		if i > 0 && (random.Intn(3) == 0 || len(tokenTexts(tokens[i-1]+token)) != 2) {
			text += pick(random, gaps)
		}
		text += token
	}
	return text + pick(random, append(gaps, "", "%", "% end ;"))
}

// TestStatementsRestored is promise 8 for statements: all that are made of names that are tokens are read back from their texts, however these are laid out.
func TestStatementsRestored(t *testing.T) {
	random := fixedRandom()
	kinds := map[int64]int{}
	for range 5000 {
		s := randomStatement(random)
		kinds[s.Kind]++
		text := impl.StatementText(s)
		tokens := tokenTexts(text)
		for _, text := range []string{text, laidOut(random, tokens), laidOut(random, tokens), strings.Join(tokens, "\n"), strings.Join(tokens, " %;\n")} {
			got, code := impl.ReadStatement(text)
			if code != impl.OK || !impl.SameStatement(got, s) {
				t.Fatalf("ReadStatement(%q): got %+v with code %d, want %+v", text, got, code, s)
			}
			check(t, "text of what is read", impl.StatementText(got), impl.StatementText(s))
		}
		want, due := wantedStatement(text)
		check(t, "what the text means", show(want, due), show(s, impl.OK))
		check(t, "layout", text, strings.NewReplacer("- ", "-", " * ", "*", " -- ", " -- ").Replace(strings.Join(tokens, " ")))
	}
	check(t, "kinds that occur", len(kinds), 11)
}

// otherTokens changes a few tokens at random.
func otherTokens(random *rand.Rand, tokens []string) []string {
	pool := append(slices.Clone(keywords), ";", ";", "=", "=", "+", "-", "-", "*", "..", "..", "--", "--", "a", "b", "stem", "abcdefghijk", "abcdefghij", "1", "0", "2", "1/2", "97", "1000000000", "999999/1000000")
	list := slices.Clone(tokens)
	for range random.Intn(4) {
		if len(list) == 0 {
			break
		}
		i, j := random.Intn(len(list)), random.Intn(len(list))
		switch random.Intn(5) {
		case 0:
			list = slices.Delete(list, i, i+1)
		case 1:
			list = slices.Insert(list, i, pick(random, pool))
		case 2:
			list[i] = pick(random, pool)
		case 3:
			list[i], list[j] = list[j], list[i]
		default:
			list = slices.Insert(list, i, list[j])
		}
	}
	return list
}

// TestReadStatementRandom holds the parser against the forms of statements, with tokens that are put elsewhere.
func TestReadStatementRandom(t *testing.T) {
	random := fixedRandom()
	found := map[int64]int{}
	for range 20000 {
		tokens := otherTokens(random, tokenTexts(impl.StatementText(randomStatement(random))))
		checkStatementText(t, random, tokens, found)
	}
	if found[impl.OK] < 5000 || found[impl.ErrSyntax] < 5000 {
		t.Error("the random texts are too much alike: ", found)
	}
}

func checkStatementText(t *testing.T, random *rand.Rand, tokens []string, found map[int64]int) {
	t.Helper()
	text := laidOut(random, tokens)
	got, code := impl.ReadStatement(text)
	want, due := wantedStatement(text)
	check(t, show("ReadStatement", text), show(got, code), show(want, due))
	found[due]++
}

// TestReadSumsRandom reads sums whose parts come several times, with signs and with errors of the arithmetic.
func TestReadSumsRandom(t *testing.T) {
	t.Parallel()
	random := fixedRandom()
	found := map[int64]int{}
	names := numbered("t", 20)
	numbers := []string{"0", "1", "2", "1/2", "3/7", "5/6", "1000000000", "1/1000000", "1/999983", "400000000"}
	for i := range 8000 {
		var tokens []string
		for _, end := range []string{"=", ";"} {
			for part := range 1 + random.Intn(1+i%37) {
				signs := [][]string{{"+"}, {"-"}, {"+", "-"}, {"-", "-"}}
				if part == 0 && random.Intn(50) > 0 {
					signs = [][]string{{}, {"-"}}
				}
				tokens = append(tokens, pick(random, signs)...)
				switch name, number := pick(random, names[:1+i%20]), pick(random, numbers[:4+i%7]); random.Intn(3) {
				case 0:
					tokens = append(tokens, number)
				case 1:
					tokens = append(tokens, name)
				default:
					tokens = append(tokens, number, "*", name)
				}
			}
			tokens = append(tokens, end)
		}
		checkStatementText(t, random, tokens, found)
	}
	if found[impl.OK] < 2000 || found[impl.ErrSyntax] < 50 || found[impl.ErrRange] < 1000 || found[impl.ErrFull] < 20 {
		t.Error("the random sums are too much alike: ", found)
	}
}

// wantedProgram is what ReadProgram has to return.
func wantedProgram(text string) ([]statement, int64, int64) {
	tokens, stop, code := wantedTokens(text)
	if code != impl.OK {
		return nil, stop, code
	}
	var list []statement
	for first, i := 0, 0; i < len(tokens); i++ {
		if i == first && len(list) == impl.MaxStatements {
			return nil, tokens[first].At, impl.ErrFull
		}
		if tokens[i].Text == ";" {
			s, code := statementOf(tokens[first : i+1])
			if code != impl.OK {
				return nil, tokens[first].At, code
			}
			list, first = append(list, s), i+1
		} else if i == len(tokens)-1 {
			return nil, tokens[first].At, impl.ErrSyntax
		}
	}
	return list, stop, impl.OK
}

func TestReadProgram(t *testing.T) {
	ends := strings.Repeat("end;", 100)
	const over = "a=1000000000*b+1000000000*b;"
	cases := []struct {
		text, want string
		stop, code int64
	}{
		{"", "", 0, 0}, {" % end;\n ", "", 9, 0}, {"end;", "end ;\n", 4, 0}, {" end ; ", "end ;\n", 7, 0}, {"end;end;", "end ;\nend ;\n", 8, 0}, {"end;a..b = 1;", "", 4, 7}, {"end; a..b = 1;", "", 5, 7},
		{"let w = 1/2; glyph a 97 500; end;", "let w = 1/2 ;\nglyph a 97 500 ;\nend ;\n", 33, 0}, {"let\nw=1\n;% x ;\nend\n;\n", "let w = 1 ;\nend ;\n", 21, 0},
		{"end", "", 0, 7}, {" % x\n end", "", 6, 7}, {"end; end", "", 5, 7}, {"end;\n fill o", "", 6, 7}, {";", "", 0, 7}, {"end;;", "", 4, 7}, {"end; ;end;", "", 5, 7}, {"end; %;\n  ;", "", 10, 7},
		{"end; let w = 1/2", "", 5, 7}, {"end; let w = b; end;", "", 5, 7}, {"end; let w = b; ?", "", 16, 7}, {"end; let w = b; end", "", 5, 7}, {"fill; end", "", 0, 7}, {"end fill o;", "", 0, 7}, {"path o a..b; path o a..b..cycle; end;", "", 13, 7},
		{"end; " + over, "", 5, 2}, {"end; " + over + "fill;", "", 5, 2}, {"fill;" + over, "", 0, 7}, {over + "a", "", 0, 2}, {over + " 2/4", "", int64(len(over)) + 1, 7}, {over + "abcdefghijklm", "", int64(len(over)), 7}, {over + " ~", "", int64(len(over)) + 1, 7}, {strings.Join(inNames(13), "+") + "=0;" + over, "", 0, 5}, {"end;\n" + strings.Join(inNames(13), "+") + "=0;" + over, "", 5, 5},
		{ends, strings.Repeat("end ;\n", 100), 400, 0}, {ends + "  % end;", strings.Repeat("end ;\n", 100), 408, 0}, {ends + "end;", "", 400, 5}, {ends + " \n end", "", 403, 5}, {ends + ";", "", 400, 5}, {ends + over, "", 400, 5}, {ends + "fill", "", 400, 5}, {ends + "?", "", 400, 7}, {ends + "end;?", "", 404, 7}, {ends[4:] + "fill;end;", "", 396, 7}, {ends[4:] + "end", "", 396, 7},
		{strings.Repeat("a ", 600) + "a", "", 1200, 5}, {strings.Repeat("a ", 600), "", 0, 7}, {strings.Repeat("let a=1;", 100), strings.Repeat("let a = 1 ;\n", 100), 800, 0}, {strings.Repeat("glyph a 1 2;", 100), strings.Repeat("glyph a 1 2 ;\n", 100), 1200, 0}, {strings.Repeat("glyph a 1 -2;", 100), strings.Repeat("glyph a 1 -2 ;\n", 100), 1300, 0}, {strings.Repeat("glyph a 1 -2;", 100) + "% x\nend;", "", 1304, 5}, {strings.Repeat("pen a box -1 -2;", 76), "", 1200, 5}, {strings.Repeat("pen a box -1 -2;", 75), strings.Repeat("pen a box -1 -2 ;\n", 75), 1200, 0}, {strings.Repeat("path o a..b;", 100), strings.Repeat("path o a .. b ;\n", 100), 1200, 0},
	}
	for _, c := range cases {
		list, stop, code := impl.ReadProgram(c.text)
		want, wanted, due := wantedProgram(c.text)
		check(t, show("ReadProgram", c.text), show(list, stop, code), show(want, wanted, due))
		check(t, show("text and place of ", c.text), show(impl.ProgramText(list), stop, code), show(c.want, c.stop, c.code))
	}
}

// TestProgramsRestored is promise 8 for programs: they are read back from their texts if these have not too many tokens.
func TestProgramsRestored(t *testing.T) {
	random := fixedRandom()
	full := 0
	for i := range 600 {
		var list []statement
		for range random.Intn(2 + i%300) {
			list = append(list, randomStatement(random))
		}
		if i%7 == 0 {
			list = slices.Repeat([]statement{{Kind: impl.StFill, Name: "a"}, {Kind: impl.StGlyph, Name: "b", Numbers: []int64{1, 2}}}, 50)
		}
		list = list[:min(len(list), 100)]
		text := impl.ProgramText(list)
		lines := strings.SplitAfter(text, "\n")
		check(t, "number of lines", len(lines), len(list)+1)
		for k, s := range list {
			check(t, "line of a program", lines[k], impl.StatementText(s)+"\n")
		}
		tokens := tokenTexts(text)
		for _, text := range []string{text, laidOut(random, tokens)} {
			got, stop, code := impl.ReadProgram(text)
			if len(tokens) == 0 && len(list) > 0 {
				full++
				check(t, "code of a text with too many tokens", code, int64(impl.ErrFull))
				break
			}
			check(t, "ReadProgram of a text", show(stop, code), show(len(text), impl.OK))
			if !slices.EqualFunc(got, list, impl.SameStatement) {
				t.Fatalf("ReadProgram(%q): got %+v, want %+v", text, got, list)
			}
		}
	}
	if full < 30 || full > 400 {
		t.Error("the programs are too much alike: ", full)
	}
}

// TestReadProgramRandom holds programs with faults at any place, and the places told, against the forms of statements.
func TestReadProgramRandom(t *testing.T) {
	random := fixedRandom()
	found := map[int64]int{}
	for range 4000 {
		var tokens []string
		for range random.Intn(10) {
			line := tokenTexts(impl.StatementText(randomStatement(random)))
			if random.Intn(8) == 0 {
				line = otherTokens(random, line)
			}
			tokens = append(tokens, line...)
		}
		text := laidOut(random, tokens)
		if random.Intn(20) == 0 {
			place := random.Intn(len(text) + 1)
			text = text[:place] + pick(random, []string{"?", "2/4", ";", "%", " abcdefghijklm "}) + text[place:]
		}
		list, stop, code := impl.ReadProgram(text)
		want, wanted, due := wantedProgram(text)
		check(t, show("ReadProgram", text), show(list, stop, code), show(want, wanted, due))
		found[due]++
	}
	if found[impl.OK] < 500 || found[impl.ErrSyntax] < 500 {
		t.Error("the random programs are too much alike: ", found)
	}
}

func TestProgramText(t *testing.T) {
	end := statement{Kind: impl.StEnd}
	pen := statement{Kind: impl.StPen, Name: "nib", Numbers: []int64{5}}
	bad := statement{Kind: impl.StPen, Name: "nib"}
	cases := []struct {
		list []statement
		want string
	}{
		{nil, ""}, {[]statement{}, ""}, {[]statement{end}, "end ;\n"}, {[]statement{pen, end}, "pen nib round 5 ;\nend ;\n"}, {[]statement{bad}, ""}, {[]statement{pen, bad}, ""}, {[]statement{bad, pen}, ""}, {[]statement{pen, {}, pen}, ""},
		{slices.Repeat([]statement{end}, 100), strings.Repeat("end ;\n", 100)}, {slices.Repeat([]statement{end}, 101), ""}, {append(slices.Repeat([]statement{end}, 99), bad), ""}, {append(slices.Repeat([]statement{end}, 100), bad), ""},
	}
	for _, c := range cases {
		check(t, show("ProgramText", len(c.list)), impl.ProgramText(c.list), c.want)
	}
	for _, s := range badStatements() {
		check(t, show("ProgramText with ", s), impl.ProgramText([]statement{end, s, end}), "")
	}
}

func TestNamesUsed(t *testing.T) {
	let := statement{Kind: impl.StLet, Name: "w", Left: expr("2")}
	cases := []struct {
		text, want string
	}{
		{"", ""}, {"let w = 1/2; glyph a 97 500; end;", "w"}, {"stem=2*a-b+3;", "a b stem"}, {"1 = 2;", ""}, {"a=0*b;", "a"}, {"a-a=b;", "b"}, {"let z=1; b=a; a=b; c.x=1;", "a b c.x z"}, {"path o p..q..p;", "p.x p.y q.x q.y"}, {"path o q--p--r--cycle;", "p.x p.y q.x q.y r.x r.y"},
		{"anchor top p;", "p.x p.y"}, {"anchor top abcdefghij;", "abcdefghij.x abcdefghij.y"}, {"pen a box 1 2; pen b round 3; fill c; erase d; stroke e with f; glyph g 1 2; part h 1 2; end;", ""}, {"p.x=1; p.y=p.x; path o p.x--p;", "p.x p.x.x p.x.y p.y"}, {"b=1; let a=2; anchor c a0;", "a a0.x a0.y b"},
	}
	for _, c := range cases {
		list, _, code := impl.ReadProgram(c.text)
		check(t, "code of "+c.text, code, int64(impl.OK))
		check(t, "NamesUsed of "+c.text, strings.Join(impl.NamesUsed(list), " "), c.want)
	}
	check(t, "as many as there may be", show(impl.NamesUsed(slices.Repeat([]statement{let}, 100))), "[[w]]")
	for _, list := range [][]statement{slices.Repeat([]statement{let}, 101), {{}}, {let, {}}, {{}, let}, append(slices.Repeat([]statement{let}, 99), statement{Kind: impl.StPen})} {
		check(t, "NamesUsed of a list that is not valid", len(impl.NamesUsed(list)), 0)
	}
	for _, s := range badStatements() {
		check(t, show("NamesUsed with ", s), len(impl.NamesUsed([]statement{let, s, let})), 0)
	}
}

// TestNamesUsedRandom gathers the names in another way, from the texts.
func TestNamesUsedRandom(t *testing.T) {
	random := fixedRandom()
	for range 500 {
		var list []statement
		set := map[string]bool{}
		for range random.Intn(20) {
			s := randomStatement(random)
			list = append(list, s)
			names := regexp.MustCompile(`\*[a-z0-9.]*|^let [^ ]*`).FindAllString(impl.StatementText(s), -1)
			for _, name := range names {
				set[strings.TrimPrefix(strings.TrimPrefix(name, "*"), "let ")] = true
			}
			for _, point := range s.Points {
				set[point+".y"], set[point+".x"] = true, true
			}
		}
		check(t, show("NamesUsed", list), show(impl.NamesUsed(list)), show(slices.Sorted(maps.Keys(set))))
	}
}

type languageResults struct {
	tokens     []impl.Token
	list       []statement
	one        statement
	names      []string
	texts      []string
	flags      []bool
	codes      []int64
	stop, last int64
}

func languageResultsOf(text string, s, other statement, program []statement) languageResults {
	var r languageResults
	var one, two, three int64
	r.tokens, r.stop, one = impl.ReadTokens(text)
	r.one, two = impl.ReadStatement(text)
	r.list, r.last, three = impl.ReadProgram(text)
	r.names = impl.NamesUsed(program)
	r.texts = []string{impl.StatementText(s), impl.StatementText(other), impl.ProgramText(program)}
	r.flags = []bool{impl.IsKeyword(text), impl.IsKeyword(s.Name), impl.ValidStatement(s), impl.ValidStatement(other), impl.SameStatement(s, other), impl.SameStatement(s, s)}
	r.codes = []int64{one, two, three}
	return r
}

// checkZero holds everything that comes with an error to be 0, but for the places of errors.
func (r languageResults) checkZero(t *testing.T) {
	t.Helper()
	if r.codes[0] != impl.OK && len(r.tokens) > 0 || r.codes[1] != impl.OK && show(r.one) != show(statement{}) || r.codes[2] != impl.OK && len(r.list) > 0 {
		t.Errorf("results are not 0 though there are errors: %+v", r)
	}
}

// TestLanguageTotal is promise 1 for chapter 7: all functions return for all arguments, twice alike.
func TestLanguageTotal(t *testing.T) {
	random := fixedRandom()
	texts := append(oddTexts(), strings.Repeat("a", 1000000), strings.Repeat("1", 1000000), strings.Repeat(" ", 1000000), strings.Repeat("%", 1000000), strings.Repeat("end;", 100000), strings.Repeat("-", 599)+"1=a;", "a="+strings.Repeat("- ", 500)+"a;", "path o "+strings.Repeat("a..", 299)+"a;", "let", "pen", "path o", "stroke a with", "glyph a -", "a=", "a=3*", "-", "end", ";", "let w = 1", "% \xff")
	list := badStatements()
	for _, text := range slices.Sorted(maps.Keys(goodStatements())) {
		texts = append(texts, text, text+text, text[:len(text)/2])
		list = append(list, goodStatements()[text])
	}
	endless := statement{Kind: impl.StPath, Name: "o", Points: make([]string, 1000000), Numbers: make([]int64, 1000000)}
	for i := range 3000 {
		text, s, other := pick(random, texts), pick(random, list), pick(random, list)
		if i < len(texts) {
			text = texts[i]
		}
		if i == 0 {
			s, other = endless, endless
		}
		program := slices.Repeat([]statement{s, other}, random.Intn(4)*random.Intn(20))
		first := languageResultsOf(text, s, other, program)
		first.checkZero(t)
		if show(first) != show(languageResultsOf(text, s, other, program)) {
			t.Fatal("equal arguments have different results: ", text, s, other)
		}
	}
}

// TestScannersEnd looks whether reading leaves goroutines behind.
func TestScannersEnd(t *testing.T) {
	before := runtime.NumGoroutine()
	for range 300 {
		for _, text := range []string{"", "end;", "?", "a ?", strings.Repeat("a ", 700), "a b c 2/4 d e f", "let w = 1"} {
			impl.ReadTokens(text)
			impl.ReadStatement(text)
			impl.ReadProgram(text)
		}
	}
	// One that has closed its channel may still be about to end.
	for range 100 {
		if runtime.NumGoroutine() <= before {
			return
		}
		time.Sleep(10 * time.Millisecond)
	}
	t.Error("goroutines left behind: ", runtime.NumGoroutine()-before)
}

// roomySlice returns a slice with the same elements, behind which there is room that is not empty.
func roomySlice[T any](list []T, guard T) []T {
	return append(slices.Clone(list), slices.Repeat([]T{guard}, 30)...)[:len(list)]
}

func roomyStatement(s statement) statement {
	s.Left, s.Right = roomy(s.Left), roomy(s.Right)
	s.Points, s.Numbers = roomySlice(s.Points, "guard"), roomySlice(s.Numbers, 77)
	return s
}

func memoryOf(list []statement) string {
	text := ""
	for _, s := range list[:cap(list)] {
		text += show(s) + everythingOf(system{}, s.Left, s.Right) + show(s.Points[:cap(s.Points)], s.Numbers[:cap(s.Numbers)])
	}
	return text
}

func overwriteStatement(s statement) {
	scribble(s.Left)
	scribble(s.Right)
	overwrite(s.Points, "scribble")
	overwrite(s.Numbers, 55)
}

// TestLanguageKeepsArguments is promise 1 for the memory of arguments and results.
func TestLanguageKeepsArguments(t *testing.T) {
	t.Parallel()
	random := fixedRandom()
	for range 200 {
		var list []statement
		for range 1 + random.Intn(12) {
			list = append(list, roomyStatement(randomStatement(random)))
		}
		if random.Intn(3) == 0 {
			list = append(list, roomyStatement(pick(random, badStatements())))
		}
		list = roomySlice(list, roomyStatement(statement{Kind: 77}))
		text := impl.ProgramText(list)
		before := memoryOf(list)
		first := languageResultsOf(text, list[0], list[len(list)-1], list)
		shown := show(first)
		check(t, "arguments after all calls", memoryOf(list), before)
		for i, s := range first.list {
			others := show(first.list[i+1:])
			right := show(s.Right)
			scribble(s.Left)
			check(t, "the right side after the left one is overwritten", show(s.Right), right)
			overwriteStatement(s)
			check(t, "the following statements after one is overwritten", show(first.list[i+1:]), others)
		}
		overwriteStatement(first.one)
		overwrite(first.list, statement{Kind: 55})
		overwrite(first.tokens, impl.Token{Kind: 55})
		overwrite(first.names, "scribble")
		check(t, "arguments after results are overwritten", memoryOf(list), before)
		check(t, "all results again", show(languageResultsOf(text, list[0], list[len(list)-1], list)), shown)
	}
}
