package tests

import (
	"encoding/hex"
	"fmt"
	"maps"
	"math"
	"math/big"
	"math/rand"
	"regexp"
	"slices"
	"strings"
	"testing"

	"loop.example/g00883/impl"
)

type (
	glyph    = impl.Glyph
	glyphSet = impl.GlyphSet
	part     = impl.Part
	anchor   = impl.Anchor
)

func TestGlyphConstants(t *testing.T) {
	got := []int{impl.MaxGlyphs, impl.MaxParts, impl.MaxAnchors, impl.MaxHints, impl.MaxChar, impl.MinUnit, impl.MaxUnit}
	check(t, "constants", show(got), show([]int{40, 6, 6, 400, 65535, 16, 16384}))
}

// leaf returns a glyph without parts.
func leaf(name string, lines ...string) glyph {
	return glyph{Name: name, Code: -1, Outline: outlineOf(lines...)}
}

// compound returns a glyph with parts.
func compound(name string, parts ...part) glyph {
	return glyph{Name: name, Code: -1, Parts: parts}
}

func partAt(index, x, y int64) part { return part{Glyph: index, Move: at(x, y)} }

func setOf(glyphs ...glyph) glyphSet { return glyphSet{Unit: 1000, Glyphs: glyphs} }

func withAnchors(g glyph, anchors ...anchor) glyph {
	g.Anchors = anchors
	return g
}

func anchorAt(name string, x, y int64) anchor { return anchor{Name: name, At: at(x, y)} }

var wholeName = regexp.MustCompile(`\A[a-z][a-z0-9.]{0,11}\z`)

// areNames tells whether words are names of chapter 1, each of them once.
func areNames(words []string) bool {
	seen := map[string]bool{}
	for _, word := range words {
		seen[word] = true
	}
	return len(seen) == len(words) && !slices.ContainsFunc(words, func(word string) bool { return !wholeName.MatchString(word) })
}

func isPlace(p pt) bool { return max(p.X, p.Y) <= 262144 && min(p.X, p.Y) >= -262144 }

// glyphIsValid tells what the document says.
func glyphIsValid(g glyph) bool {
	var names []string
	ok := areNames([]string{g.Name}) && g.Code >= -1 && g.Code <= 65535 && g.Advance >= 0 && g.Advance <= 262144 && outlineIsValid(g.Outline)
	for _, p := range g.Parts {
		ok = ok && p.Glyph >= 0 && p.Glyph <= 39 && isPlace(p.Move) && len(g.Outline.Loops) == 0
	}
	for _, a := range g.Anchors {
		names = append(names, a.Name)
		ok = ok && isPlace(a.At)
	}
	return ok && areNames(names) && len(g.Parts) <= 6 && len(names) <= 6 && len(g.Hints) <= 400
}

// reachOf tells which glyphs are parts of which ones, directly or by way of others. All parts have to be glyphs.
func reachOf(s glyphSet) [][]bool {
	n := len(s.Glyphs)
	reach := make([][]bool, n)
	for i, g := range s.Glyphs {
		reach[i] = make([]bool, n)
		for _, p := range g.Parts {
			reach[i][p.Glyph] = true
		}
	}
	for k := range n {
		for i := range n {
			for j := range n {
				reach[i][j] = reach[i][j] || reach[i][k] && reach[k][j]
			}
		}
	}
	return reach
}

// setIsValid tells what the document says.
func setIsValid(s glyphSet) bool {
	var names []string
	codes, signs := map[int64]bool{}, 0
	for _, g := range s.Glyphs {
		names = append(names, g.Name)
		if g.Code != -1 {
			codes[g.Code] = true
			signs++
		}
		if !glyphIsValid(g) || slices.ContainsFunc(g.Parts, func(p part) bool { return p.Glyph >= int64(len(s.Glyphs)) }) {
			return false
		}
	}
	if s.Unit < 16 || s.Unit > 16384 || len(names) > 40 || !areNames(names) || len(codes) != signs {
		return false
	}
	for i, row := range reachOf(s) {
		if row[i] {
			return false
		}
	}
	return true
}

// goodGlyphs returns valid glyphs by their texts.
func goodGlyphs() map[string]glyph {
	anchors := []anchor{anchorAt("end", 0, 0), anchorAt("hints", 1, 1), anchorAt("a", -1, 2), anchorAt("a.", 5, 5), anchorAt("top", 5, 5), anchorAt("abcdefghijkl", 262144, -262144)}
	return map[string]glyph{
		"glyph dot 46 200\nloop 0,0 9,0 9,9\nend\n": {Name: "dot", Code: 46, Advance: 200, Outline: outlineOf("0,0 9,0 9,9")},
		"glyph a -1 0\nend\n":                       {Name: "a", Code: -1},
		"glyph a.. 0 1\nend\n":                      {Name: "a..", Advance: 1},
		"glyph abcdefghijkl 65535 262144\nend\n":    {Name: "abcdefghijkl", Code: 65535, Advance: 262144},
		"glyph o 111 500\nloop 0,0 ~8,0 ~8,8\nloop -1,-1 ~262144,-262144\nloop 7,7\nend\n":                                                                   {Name: "o", Code: 111, Advance: 500, Outline: outlineOf("0,0 ~8,0 ~8,8", "-1,-1 ~262144,-262144", "7,7")},
		"glyph i 105 300\npart 0 0,0\npart 39 -262144,262144\nanchor top 5,-5\nhints 00ff0a61\nend\n":                                                        {Name: "i", Code: 105, Advance: 300, Parts: []part{partAt(0, 0, 0), partAt(39, -262144, 262144)}, Anchors: []anchor{anchorAt("top", 5, -5)}, Hints: "\x00\xff\na"},
		"glyph glyph 0 0\n" + strings.Repeat("part 7 1,-1\n", 6) + "end\n":                                                                                   {Name: "glyph", Parts: slices.Repeat([]part{partAt(7, 1, -1)}, 6)},
		"glyph end 1 0\nloop 0,0\nanchor end 0,0\nanchor hints 1,1\nanchor a -1,2\nanchor a. 5,5\nanchor top 5,5\nanchor abcdefghijkl 262144,-262144\nend\n": {Name: "end", Code: 1, Outline: outlineOf("0,0"), Anchors: anchors},
		"glyph h 2 0\nhints " + strings.Repeat("20", 400) + "\nend\n":                                                                                        {Name: "h", Code: 2, Hints: strings.Repeat(" ", 400)},
		"glyph h 2 0\nhints 0d\nend\n":                                                  {Name: "h", Code: 2, Hints: "\r"},
		"glyph many 3 0\n" + strings.Repeat("loop 0,0 1,1\n", 12) + "end\n":             {Name: "many", Code: 3, Outline: outlineOf(slices.Repeat([]string{"0,0 1,1"}, 12)...)},
		"glyph long 3 0\nloop 0,0" + strings.Repeat(" ~-9,262144", 59) + "\nend\n":      {Name: "long", Code: 3, Outline: outlineOf(repeated("0,0", "~-9,262144", 60))},
		"glyph hints 3 0\nanchor loop 0,0\nanchor part 0,0\nhints 656e640a\nend\n":      {Name: "hints", Code: 3, Anchors: []anchor{anchorAt("loop", 0, 0), anchorAt("part", 0, 0)}, Hints: "end\n"},
		"glyph unit -1 7\nloop 0,0\nloop 0,0\nhints " + allBytesInHex + "\nend\n":       {Name: "unit", Code: -1, Advance: 7, Outline: outlineOf("0,0", "0,0"), Hints: allBytes()},
		"glyph part -1 0\npart 39 0,0\npart 38 0,0\nanchor anchor 0,0\nhints 00\nend\n": {Name: "part", Code: -1, Parts: []part{partAt(39, 0, 0), partAt(38, 0, 0)}, Anchors: []anchor{anchorAt("anchor", 0, 0)}, Hints: "\x00"},
	}
}

// allBytes returns every byte once.
func allBytes() string {
	list := make([]byte, 256)
	for i := range list {
		list[i] = byte(i)
	}
	return string(list)
}

var allBytesInHex = hex.EncodeToString([]byte(allBytes()))

// goodGlyphList returns the good glyphs in the order of their texts.
func goodGlyphList() []glyph {
	var list []glyph
	for _, text := range slices.Sorted(maps.Keys(goodGlyphs())) {
		list = append(list, goodGlyphs()[text])
	}
	return list
}

// copyOfGlyph returns an equal glyph in other memory.
func copyOfGlyph(g glyph) glyph {
	g.Outline, g.Parts, g.Anchors = copyOf(g.Outline), slices.Clone(g.Parts), slices.Clone(g.Anchors)
	return g
}

func copyOfSet(s glyphSet) glyphSet {
	other := glyphSet{Unit: s.Unit}
	for _, g := range s.Glyphs {
		other.Glyphs = append(other.Glyphs, copyOfGlyph(g))
	}
	return other
}

// glyphChanges returns copies of a glyph with one field changed.
func glyphChanges(g glyph) []glyph {
	var list []glyph
	change := func(do func(c *glyph)) {
		c := copyOfGlyph(g)
		do(&c)
		list = append(list, c)
	}
	for _, name := range []string{"", "b", "B", "a b", "1", ".a", "a-b", "a\n", "abcdefghijklm", "abcdefghijkl", "\u00e4", "a\x00"} {
		change(func(c *glyph) { c.Name = name })
		change(func(c *glyph) { c.Anchors = append(c.Anchors, anchorAt(name, 0, 0)) })
		change(func(c *glyph) { c.Anchors = slices.Insert(c.Anchors, 0, anchorAt(name, 0, 0)) })
	}
	for _, n := range []int64{-2, -1, 0, 1, 39, 40, 65535, 65536, 262144, 262145, math.MaxInt64, math.MinInt64} {
		change(func(c *glyph) { c.Code = n })
		change(func(c *glyph) { c.Advance = n })
		change(func(c *glyph) { c.Parts = append(c.Parts, partAt(n, 1, 1)) })
		change(func(c *glyph) { c.Parts = slices.Insert(c.Parts, 0, partAt(n, 1, 1)) })
		change(func(c *glyph) { c.Parts = append(c.Parts, partAt(0, n, 1), partAt(1, 1, 1)) })
		change(func(c *glyph) { c.Parts = append(c.Parts, partAt(0, 1, -n)) })
		change(func(c *glyph) { c.Anchors = append(c.Anchors, anchorAt("new", -n, 1)) })
		change(func(c *glyph) { c.Anchors = append(c.Anchors, anchorAt("new", 1, n), anchorAt("newer", 1, 1)) })
	}
	for _, line := range []string{"", "0,0", "~0,0", repeated("0,0", "1,1", 60), repeated("0,0", "1,1", 61)} {
		change(func(c *glyph) { c.Outline.Loops = append(c.Outline.Loops, loopOf("1,1 2,2"), outlineOf(line).Loops[0]) })
		change(func(c *glyph) { c.Outline.Loops = slices.Insert(c.Outline.Loops, 0, outlineOf(line).Loops[0]) })
	}
	for _, count := range []int{1, 6, 7, 40} {
		change(func(c *glyph) { c.Parts = slices.Repeat([]part{partAt(0, 0, 0)}, count) })
		change(func(c *glyph) { c.Anchors = nil; c.Outline = outline{}; c.Parts = slices.Repeat([]part{{}}, count) })
		change(func(c *glyph) {
			c.Anchors = nil
			for _, name := range numbered("a", count) {
				c.Anchors = append(c.Anchors, anchorAt(name, 0, 0))
			}
		})
	}
	for _, count := range []int{0, 1, 399, 400, 401, 100000} {
		change(func(c *glyph) { c.Hints = strings.Repeat("\x00", count) })
	}
	change(func(c *glyph) { c.Parts, c.Anchors, c.Outline.Loops = []part{}, []anchor{}, []loop{} })
	change(func(c *glyph) { c.Anchors = append(c.Anchors, c.Anchors...) })
	return list
}

// badGlyphs returns glyphs that are not valid, each by one change.
func badGlyphs() []glyph {
	var list []glyph
	for _, g := range []glyph{leaf("a", "0,0 1,1"), compound("a", partAt(0, 0, 0))} {
		for _, c := range glyphChanges(g) {
			if !glyphIsValid(c) {
				list = append(list, c)
			}
		}
		for _, o := range badOutlines() {
			g.Outline = o
			list = append(list, g)
		}
	}
	return append(list, glyph{}, glyph{Name: "a", Code: -2}, glyph{Name: "a", Advance: -1}, glyph{Name: "a", Parts: []part{{}}, Outline: outlineOf("0,0")})
}

func TestValidGlyph(t *testing.T) {
	found := map[bool]int{}
	for text, g := range goodGlyphs() {
		check(t, "valid: "+text, impl.ValidGlyph(g), true)
		check(t, "wanted: "+text, glyphIsValid(g), true)
		for _, c := range glyphChanges(g) {
			check(t, show("valid: ", c), impl.ValidGlyph(c), glyphIsValid(c))
			found[glyphIsValid(c)]++
		}
	}
	for _, g := range badGlyphs() {
		check(t, show("valid: ", g), impl.ValidGlyph(g), false)
		check(t, show("wanted: ", g), glyphIsValid(g), false)
		check(t, "text of a glyph that is not valid", impl.GlyphText(g), "")
	}
	if found[true] < 100 || found[false] < 100 {
		t.Errorf("too few glyphs are valid, or are not: %v", found)
	}
}

func TestSameGlyph(t *testing.T) {
	list := append(goodGlyphList(), glyph{}, glyph{Code: -7, Parts: []part{partAt(-1, 1<<60, 0)}, Outline: outlineOf("~0,0")}, glyph{Anchors: []anchor{{}}}, glyph{Anchors: []anchor{{}, {}}}, glyph{Outline: outlineOf("")})
	for _, a := range list {
		for _, b := range list {
			check(t, show("SameGlyph", a, b), impl.SameGlyph(a, copyOfGlyph(b)), show(a) == show(b))
		}
		for _, c := range glyphChanges(a) {
			check(t, show("SameGlyph", a, c), impl.SameGlyph(a, c), show(a) == show(c))
			check(t, show("SameGlyph", c, a), impl.SameGlyph(c, a), show(a) == show(c))
			for _, g := range []glyph{a, c} {
				one, other := setOf(leaf("z"), g), setOf(leaf("z"), a)
				check(t, show("SameGlyphSet", one, other), impl.SameGlyphSet(one, other), show(one) == show(other))
				check(t, show("SameGlyphSet", other, one), impl.SameGlyphSet(other, one), show(one) == show(other))
			}
		}
	}
	check(t, "nothing", impl.SameGlyph(glyph{Parts: []part{}, Anchors: []anchor{}, Outline: outline{Loops: []loop{}}}, glyph{}), true)
	sets := []glyphSet{{}, {Unit: 1}, {Unit: 1000}, setOf(leaf("a")), setOf(leaf("a"), leaf("a")), setOf(leaf("a"), leaf("b")), setOf(leaf("b"), leaf("a")), setOf(leaf("b")), setOf(glyph{})}
	for i, a := range sets {
		for k, b := range sets {
			check(t, show("SameGlyphSet", a, b), impl.SameGlyphSet(a, copyOfSet(b)), i == k)
		}
	}
	check(t, "no glyphs", impl.SameGlyphSet(glyphSet{Unit: 5, Glyphs: []glyph{}}, glyphSet{Unit: 5}), true)
}

// letters returns as many glyphs with different codes, of which the first one has the code 100.
func letters(count int) []glyph {
	var list []glyph
	for i, name := range numbered("l", count) {
		list = append(list, glyph{Name: name, Code: int64(100 + i)})
	}
	return list
}

// tower returns glyphs each of which but the first one has the one before it as a part so many times, each time moved.
func tower(first glyph, height, times int, x, y int64) []glyph {
	list := []glyph{first}
	for i, name := range numbered("t", height) {
		list = append(list, compound(name, slices.Repeat([]part{partAt(int64(i), x, y)}, times)...))
	}
	return list
}

// reversedSet returns the set with its glyphs in the other order, so that parts come behind the glyphs that have them.
func reversedSet(s glyphSet) glyphSet {
	other := copyOfSet(s)
	slices.Reverse(other.Glyphs)
	for _, g := range other.Glyphs {
		for i := range g.Parts {
			g.Parts[i].Glyph = int64(len(s.Glyphs)-1) - g.Parts[i].Glyph
		}
	}
	return other
}

func goodSets() []glyphSet {
	most := letters(40)
	most[0].Code, most[39].Code = 0, 65535
	list := []glyphSet{
		{Unit: 16}, {Unit: 16384}, setOf(leaf("a")), setOf(leaf("a"), leaf("b")), setOf(most...), setOf(leaf("a", "0,0", "1,1"), compound("b", partAt(0, 5, 6), partAt(0, -7, 8)), compound("c", partAt(1, 1, 1), partAt(0, 0, 0))),
		setOf(tower(leaf("a"), 39, 6, 1, 0)...), setOf(tower(leaf("a", "0,0"), 39, 6, 0, 1)...), setOf(tower(leaf("a", "0,0"), 39, 1, 3, -2)...), setOf(tower(withAnchors(leaf("a"), anchorAt("top", 1, 2)), 39, 6, 1, 1)...),
		setOf(leaf("x", "5,5"), compound("a", partAt(0, 0, 0), partAt(0, 1, 1)), compound("b", partAt(1, 10, 0), partAt(1, 20, 0)), compound("c", partAt(2, 100, 0), partAt(0, 200, 0), partAt(1, 300, 0))),
	}
	for _, g := range goodGlyphList() {
		g.Code = min(g.Code, 99)
		list = append(list, setOf(slices.Insert(letters(39), 20, g)...))
	}
	for _, s := range slices.Clone(list) {
		list = append(list, reversedSet(s))
	}
	return list
}

// badSets returns sets that are not valid, for each reason.
func badSets() []glyphSet {
	one := setOf(leaf("a"), leaf("b"))
	list := []glyphSet{
		{}, {Unit: 15}, {Unit: 16385}, {Unit: -1000}, {Unit: math.MaxInt64}, {Unit: math.MinInt64}, {Unit: 15, Glyphs: one.Glyphs}, {Unit: 16385, Glyphs: one.Glyphs},
		setOf(letters(41)...), setOf(leaf("a"), leaf("a")), setOf(leaf("a"), leaf("b"), leaf("c"), leaf("a")), setOf(glyph{Name: "a"}, glyph{Name: "b"}), setOf(glyph{Name: "a", Code: 65535}, leaf("b"), glyph{Name: "c", Code: 65535}),
		setOf(leaf("a"), compound("b", partAt(2, 0, 0))), setOf(leaf("a"), compound("b", partAt(0, 0, 0), partAt(39, 0, 0))), setOf(compound("a", partAt(1, 0, 0))), setOf(compound("a", partAt(39, 0, 0))),
		setOf(compound("a", partAt(0, 0, 0))), setOf(leaf("a"), compound("b", partAt(0, 0, 0), partAt(1, 0, 0))), setOf(compound("a", partAt(1, 0, 0)), compound("b", partAt(0, 0, 0))), setOf(leaf("x"), compound("a", partAt(2, 0, 0)), compound("b", partAt(0, 0, 0), partAt(3, 0, 0)), compound("c", partAt(1, 0, 0))),
		setOf(compound("x", partAt(1, 0, 0)), compound("a", partAt(2, 0, 0)), compound("b", partAt(1, 0, 0))), setOf(slices.Repeat([]glyph{leaf("a")}, 1000)...),
	}
	for _, g := range badGlyphs() {
		list = append(list, setOf(leaf("x"), leaf("y"), g), setOf(g, leaf("x")))
	}
	// A tower whose first glyph has the last one as a part.
	for _, height := range []int{1, 2, 3, 39} {
		glyphs := tower(compound("a", partAt(int64(height), 0, 0)), height, 6, 0, 0)
		list = append(list, setOf(glyphs...))
	}
	return list
}

// randomGlyph returns a glyph with any parts of these glyphs.
func randomGlyph(random *rand.Rand, name string, glyphs []int) glyph {
	g := glyph{Name: name, Code: -1, Advance: random.Int63n(2000)}
	if len(glyphs) > 0 && random.Intn(4) > 0 {
		for range 1 + random.Intn(3) {
			move := placeIn(random, 1<<random.Intn(19))
			g.Parts = append(g.Parts, part{Glyph: int64(pick(random, glyphs)), Move: move})
		}
	} else {
		for range random.Intn(4) {
			g.Outline.Loops = append(g.Outline.Loops, randomLoop(random))
		}
	}
	for _, name := range []string{"top", "low", "mid"} {
		if random.Intn(5) == 0 {
			g.Anchors = append(g.Anchors, anchor{Name: name, At: randomPt(random)})
		}
	}
	for range random.Intn(3) * random.Intn(9) {
		g.Hints += string([]byte{byte(random.Intn(256))})
	}
	return g
}

// randomSet returns a valid set whose glyphs are in any order.
func randomSet(random *rand.Rand) glyphSet {
	count := random.Intn(9)
	s := glyphSet{Unit: 16 + random.Int63n(16369), Glyphs: make([]glyph, count)}
	order := random.Perm(count)
	for done, i := range order {
		s.Glyphs[i] = randomGlyph(random, fmt.Sprint("g", i), order[:done])
		if random.Intn(2) == 0 {
			s.Glyphs[i].Code = int64(100 + i)
		}
	}
	return s
}

func manySets(count int) []glyphSet {
	random, list := fixedRandom(), goodSets()
	for range count {
		list = append(list, randomSet(random))
	}
	return list
}

func TestValidGlyphSet(t *testing.T) {
	for _, s := range manySets(300) {
		check(t, show("ValidGlyphSet", s), impl.ValidGlyphSet(s), true)
		check(t, show("wanted", s), setIsValid(s), true)
	}
	for _, s := range badSets() {
		check(t, show("ValidGlyphSet", s), impl.ValidGlyphSet(s), false)
		check(t, show("wanted", s), setIsValid(s), false)
		check(t, "text of a set that is not valid", impl.SetText(s), "")
	}
	random, found := fixedRandom(), map[bool]int{}
	for range 5000 {
		n := 1 + random.Intn(7)
		s := setOf(letters(n)...)
		for range random.Intn(2 * n) {
			g := &s.Glyphs[random.Intn(n)]
			g.Parts = append(g.Parts, partAt(int64(random.Intn(n)), 0, 0))
		}
		switch i, k := random.Intn(n), random.Intn(n); random.Intn(12) {
		case 0:
			s.Glyphs[i].Name = s.Glyphs[k].Name
		case 1:
			s.Glyphs[i].Code = s.Glyphs[k].Code
		case 2:
			s.Glyphs[i].Code, s.Glyphs[k].Code = -1, -1
		case 3:
			s.Glyphs[i].Parts = append(s.Glyphs[i].Parts, partAt(int64(n), 0, 0))
		}
		check(t, show("ValidGlyphSet", s), impl.ValidGlyphSet(s), setIsValid(s))
		found[setIsValid(s)]++
	}
	if found[true] < 1000 || found[false] < 1000 {
		t.Errorf("too few sets are valid, or are not: %v", found)
	}
}

func TestGlyphNamedAndOfChar(t *testing.T) {
	for _, s := range manySets(200) {
		for i, g := range s.Glyphs {
			k, ok := impl.GlyphNamed(s, g.Name)
			check(t, "GlyphNamed "+g.Name, show(k, ok), show(i, true))
			k, ok = impl.GlyphOfChar(s, g.Code)
			if g.Code == -1 {
				i = 0
			}
			check(t, show("GlyphOfChar", g.Code), show(k, ok), show(i, g.Code != -1))
		}
		for _, name := range []string{"", "zz", "nothing", "A", "g", "g99", "l", "abcdefghijklm"} {
			k, ok := impl.GlyphNamed(s, name)
			check(t, "GlyphNamed "+name, show(k, ok), show(0, false))
		}
		for _, char := range []int64{-1, -2, 77, 65536, math.MaxInt64, math.MinInt64} {
			k, ok := impl.GlyphOfChar(s, char)
			check(t, show("GlyphOfChar", char), show(k, ok), show(0, false))
		}
	}
	for _, s := range badSets() {
		for _, g := range s.Glyphs[:min(3, len(s.Glyphs))] {
			k, one := impl.GlyphNamed(s, g.Name)
			i, two := impl.GlyphOfChar(s, g.Code)
			check(t, show("a set that is not valid", s), show(k, one, i, two), show(0, false, 0, false))
		}
	}
	s := setOf(glyph{Name: "zero"}, glyph{Name: "dot", Code: 46}, leaf("alt"), leaf("alt.2"), glyph{Name: "last", Code: 65535})
	for char, want := range map[int64]string{0: "[0 true]", 46: "[1 true]", -1: "[0 false]", 1: "[0 false]", 65535: "[4 true]"} {
		k, ok := impl.GlyphOfChar(s, char)
		check(t, show("GlyphOfChar", char), show(k, ok), want)
	}
	for name, want := range map[string]string{"zero": "[0 true]", "dot": "[1 true]", "alt": "[2 true]", "alt.2": "[3 true]", "alt.": "[0 false]", "last": "[4 true]", "": "[0 false]", "dot ": "[0 false]"} {
		k, ok := impl.GlyphNamed(s, name)
		check(t, show("GlyphNamed", name), show(k, ok), want)
	}
}

// wantedAdd is what AddGlyph has to return.
func wantedAdd(s glyphSet, g glyph) (glyphSet, int64) {
	if !setIsValid(s) || !glyphIsValid(g) {
		return glyphSet{}, impl.ErrInvalid
	}
	for _, other := range s.Glyphs {
		if other.Name == g.Name || other.Code == g.Code && g.Code >= 0 {
			return glyphSet{}, impl.ErrExists
		}
	}
	for _, p := range g.Parts {
		if int(p.Glyph) >= len(s.Glyphs) {
			return glyphSet{}, impl.ErrRange
		}
	}
	if len(s.Glyphs) >= 40 {
		return glyphSet{}, impl.ErrFull
	}
	return glyphSet{Unit: s.Unit, Glyphs: slices.Concat(s.Glyphs, []glyph{g})}, impl.OK
}

func checkAdd(t *testing.T, s glyphSet, g glyph) int64 {
	t.Helper()
	got, code := impl.AddGlyph(s, g)
	want, due := wantedAdd(s, g)
	check(t, show("AddGlyph", s, g), show(got, code), show(want, due))
	return code
}

func TestAddGlyph(t *testing.T) {
	two, most, least := setOf(glyph{Name: "a", Code: 97}, leaf("b", "0,0")), setOf(letters(40)...), setOf(letters(39)...)
	bad := glyphSet{Unit: 15, Glyphs: two.Glyphs}
	cases := []struct {
		s    glyphSet
		g    glyph
		code int64
	}{
		{two, leaf("c"), 0}, {two, glyph{Name: "c", Code: 0}, 0}, {two, compound("c", partAt(1, 5, 5), partAt(0, 0, 0)), 0}, {glyphSet{Unit: 16}, leaf("a", "0,0 1,1"), 0}, {least, leaf("a"), 0}, {least, compound("a", partAt(38, 0, 0)), 0}, {two, glyph{Name: "c", Code: 98, Hints: "x"}, 0},
		{two, leaf("a"), 4}, {two, leaf("b"), 4}, {two, glyph{Name: "c", Code: 97}, 4}, {two, compound("a", partAt(2, 0, 0)), 4}, {two, compound("c", partAt(2, 0, 0)), 2}, {two, compound("c", partAt(0, 0, 0), partAt(39, 0, 0)), 2}, {two, compound("c", partAt(2, 0, 0), partAt(0, 0, 0)), 2}, {glyphSet{Unit: 16}, compound("a", partAt(0, 0, 0)), 2},
		{most, leaf("a"), 5}, {most, compound("a", partAt(39, 0, 0)), 5}, {most, leaf("l10"), 4}, {most, glyph{Name: "a", Code: 139}, 4}, {least, compound("a", partAt(39, 0, 0)), 2},
		{bad, leaf("c"), 1}, {bad, leaf("a"), 1}, {two, glyph{Name: "C"}, 1}, {two, compound("c", partAt(40, 0, 0)), 1}, {two, compound("a", partAt(-1, 0, 0)), 1}, {two, glyph{Name: "c", Code: -2}, 1}, {most, glyph{Name: "a", Code: 65536}, 1},
	}
	for _, c := range cases {
		check(t, show("AddGlyph", c.s, c.g), checkAdd(t, c.s, c.g), c.code)
	}
	random, codes := fixedRandom(), map[int64]int{}
	manyGood, glyphs := manySets(100), append(goodGlyphList(), badGlyphs()...)
	sets := append(badSets(), manyGood...)
	for range 2000 {
		s, g := pick(random, sets), pick(random, glyphs)
		if random.Intn(5) > 0 {
			s = pick(random, manyGood)
			g = randomGlyph(random, fmt.Sprint("g", random.Intn(20)), random.Perm(1+random.Intn(10)))
			g.Code = []int64{-1, 100, 105, 200}[random.Intn(4)]
		}
		codes[checkAdd(t, s, g)]++
	}
	if codes[impl.OK] < 200 || codes[impl.ErrInvalid] < 200 || codes[impl.ErrExists] < 100 || codes[impl.ErrRange] < 50 || codes[impl.ErrFull] < 50 {
		t.Errorf("the random glyphs are too much alike: %v", codes)
	}
}

// rising computes a value of each glyph from those of its parts, over and over until nothing can change any more.
func rising[V any](s glyphSet, step func(g glyph, parts []V) V) []V {
	values := make([]V, len(s.Glyphs))
	for range len(s.Glyphs) + 1 {
		next := make([]V, len(s.Glyphs))
		for i, g := range s.Glyphs {
			var parts []V
			for _, p := range g.Parts {
				parts = append(parts, values[p.Glyph])
			}
			next[i] = step(g, parts)
		}
		values = next
	}
	return values
}

// wantedDepths and wantedCounts are the results for all glyphs of a valid set.
func wantedDepths(s glyphSet) []int64 {
	return rising(s, func(g glyph, parts []int64) int64 {
		depth := int64(0)
		for _, below := range parts {
			depth = max(depth, below+1)
		}
		return depth
	})
}

func wantedCounts(s glyphSet) []int64 {
	exact := rising(s, func(g glyph, parts []*big.Int) *big.Int {
		sum := big.NewInt(int64(len(g.Outline.Loops)))
		for _, more := range parts {
			if more != nil {
				sum.Add(sum, more)
			}
		}
		return sum
	})
	var counts []int64
	for _, n := range exact {
		if n.Cmp(big.NewInt(13)) > 0 {
			n = big.NewInt(13)
		}
		counts = append(counts, n.Int64())
	}
	return counts
}

// waysOf returns in how many ways each glyph has parts, and parts of parts, and itself; at most a million.
func waysOf(s glyphSet) []int64 {
	return rising(s, func(g glyph, parts []int64) int64 {
		sum := int64(1)
		for _, more := range parts {
			sum = min(sum+more, 1000000)
		}
		return sum
	})
}

// loopsIn returns the loops of a glyph and of its parts, moved.
func loopsIn(s glyphSet, i, x, y int64) []loop {
	var list []loop
	for _, l := range s.Glyphs[i].Outline.Loops {
		var moved loop
		for _, k := range l.Knots {
			moved.Knots = append(moved.Knots, impl.Knot{At: at(k.At.X+x, k.At.Y+y), On: k.On})
		}
		list = append(list, moved)
	}
	for _, p := range s.Glyphs[i].Parts {
		list = append(list, loopsIn(s, p.Glyph, x+p.Move.X, y+p.Move.Y)...)
	}
	return list
}

// wantedWhole is what WholeOutline has to return; the glyph must not have parts in too many ways.
func wantedWhole(s glyphSet, i int64) (outline, int64) {
	o := outline{Loops: loopsIn(s, i, 0, 0)}
	if len(o.Loops) > 12 {
		return outline{}, impl.ErrFull
	}
	for _, l := range o.Loops {
		for _, k := range l.Knots {
			if !isPlace(k.At) {
				return outline{}, impl.ErrRange
			}
		}
	}
	return o, impl.OK
}

// anchorIn returns an anchor of a glyph or of the first part that has one.
func anchorIn(s glyphSet, i int64, name string, x, y int64) (pt, bool) {
	for _, a := range s.Glyphs[i].Anchors {
		if a.Name == name {
			return at(a.At.X+x, a.At.Y+y), true
		}
	}
	for _, p := range s.Glyphs[i].Parts {
		if found, ok := anchorIn(s, p.Glyph, name, x+p.Move.X, y+p.Move.Y); ok {
			return found, true
		}
	}
	return pt{}, false
}

func wantedAnchor(s glyphSet, i int64, name string) (pt, int64) {
	p, ok := anchorIn(s, i, name, 0, 0)
	switch {
	case !ok:
		return pt{}, impl.ErrNotFound
	case !isPlace(p):
		return pt{}, impl.ErrRange
	default:
		return p, impl.OK
	}
}

func wantedUsers(s glyphSet, i int64) []int64 {
	var users []int64
	for k, g := range s.Glyphs {
		if slices.ContainsFunc(g.Parts, func(p part) bool { return p.Glyph == i }) {
			users = append(users, int64(k))
		}
	}
	return users
}

// checkIn reports a result for a glyph of a set that is not the wanted one. The set is only written out then, since it may be large.
func checkIn(t *testing.T, s glyphSet, i int64, what, got, want string) {
	t.Helper()
	if got != want {
		t.Errorf("%s of glyph %d in %+v: got %s, want %s", what, i, s, got, want)
	}
}

// checkGlyphParts holds everything about the parts of all glyphs of a valid set against the words of the document.
func checkGlyphParts(t *testing.T, s glyphSet, codes map[string]int) {
	t.Helper()
	depths, counts, ways := wantedDepths(s), wantedCounts(s), waysOf(s)
	for k := range s.Glyphs {
		i := int64(k)
		depth, one := impl.GlyphDepth(s, i)
		count, two := impl.LoopCount(s, i)
		users, three := impl.GlyphUsers(s, i)
		checkIn(t, s, i, "depth, loops and users", show(depth, one, count, two, users, three), show(depths[i], 0, counts[i], 0, wantedUsers(s, i), 0))
		codes[show("depth", depth)]++
		if ways[i] > 5000 {
			continue
		}
		got, code := impl.WholeOutline(s, i)
		want, due := wantedWhole(s, i)
		checkIn(t, s, i, "WholeOutline", show(got, code), show(want, due))
		codes[show("whole", due)]++
		if len(want.Loops) > 0 && len(s.Glyphs[i].Parts) > 0 {
			codes["loops of parts"]++
		}
		for _, name := range []string{"top", "low", "mid", "none", ""} {
			p, code := impl.AnchorOf(s, i, name)
			want, due := wantedAnchor(s, i, name)
			checkIn(t, s, i, "AnchorOf "+name, show(p, code), show(want, due))
			codes[show("anchor", due)]++
		}
	}
}

// TestGlyphParts is promise 18 for whole glyphs.
func TestGlyphParts(t *testing.T) {
	t.Parallel()
	random, codes := fixedRandom(), map[string]int{}
	for _, s := range manySets(800) {
		checkGlyphParts(t, s, codes)
		checkGlyphParts(t, reversedSet(s), codes)
	}
	// Sets that differ in one coordinate are inside and outside of the range.
	for range 300 {
		m := at(262144-random.Int63n(2), -262144+random.Int63n(2))
		s := setOf(withAnchors(leaf("a", "0,0 ~3,-2 5,-1"), anchorAt("top", 5, -2)), compound("b", part{Glyph: 0, Move: m}), compound("c", partAt(1, -random.Int63n(7), random.Int63n(4))), compound("d", partAt(2, -262144, 262144), part{Glyph: 0, Move: placeIn(random, 262144)}))
		checkGlyphParts(t, s, codes)
	}
	for _, kind := range []string{"[whole 0]", "[whole 2]", "[whole 5]", "[anchor 0]", "[anchor 2]", "[anchor 3]", "[depth 0]", "[depth 1]", "[depth 3]", "[depth 39]", "loops of parts"} {
		if codes[kind] < 2 {
			t.Errorf("too few sets of this kind: %s in %v", kind, codes)
		}
	}
}

func TestWholeOutline(t *testing.T) {
	s := setOf(leaf("a", "0,0 9,0 ~9,9"), compound("b", partAt(0, 0, 0), partAt(0, 0, 50)), compound("c", partAt(1, 100, 1), partAt(3, 1, 1), partAt(0, -5, -5)), leaf("d", "1,1", "2,2"), leaf("e"), compound("f", partAt(4, 5, 5), partAt(4, 6, 6)), compound("g", partAt(5, 1, 1), partAt(0, 7, 0), partAt(5, 0, 0)))
	for i, want := range []string{"0,0 9,0 ~9,9\n", "0,0 9,0 ~9,9\n0,50 9,50 ~9,59\n", "100,1 109,1 ~109,10\n100,51 109,51 ~109,60\n2,2\n3,3\n-5,-5 4,-5 ~4,4\n", "1,1\n2,2\n", "", "", "7,0 16,0 ~16,9\n"} {
		o, code := impl.WholeOutline(s, int64(i))
		check(t, show("WholeOutline", i), show(impl.OutlineText(o), code), show(want, impl.OK))
	}
	// Twelve loops are allowed, and only these have to be in the range.
	const m = 262144
	full := setOf(leaf("a", "0,0", "1,1"), compound("b", slices.Repeat([]part{partAt(0, 5, 5)}, 6)...), leaf("c", "0,0"), compound("d", partAt(1, 0, 0), partAt(2, 0, 0)), compound("e", partAt(1, m, m)), compound("f", partAt(4, -m, -m)), compound("g", partAt(1, m, m), partAt(2, 0, 0)), compound("h", partAt(4, -6, -6)), compound("i", partAt(4, -5, -6)), compound("j", partAt(4, -6, -5)))
	for i, want := range []string{"2 0", "12 0", "1 0", "0 5", "0 2", "12 0", "0 5", "12 0", "0 2", "0 2"} {
		o, code := impl.WholeOutline(full, int64(i))
		check(t, show("WholeOutline", i), fmt.Sprint(len(o.Loops), code), want)
	}
	for i, want := range []int64{2, 12, 1, 13, 12, 12, 13, 12, 12, 12} {
		count, code := impl.LoopCount(full, int64(i))
		check(t, show("LoopCount", i), show(count, code), show(want, 0))
	}
}

// TestPartsOfParts has glyphs with parts in more ways than can be counted one by one.
func TestPartsOfParts(t *testing.T) {
	top := anchorAt("top", 3, 4)
	// The parts without loops come in 6 to the power of 38 ways; the only loop stands behind and between them.
	empty := tower(withAnchors(leaf("a"), top), 37, 6, 1, -1)
	s := setOf(append(empty, leaf("x", "0,0 1,1"), compound("y", partAt(37, 0, 0), partAt(38, 7, 8), partAt(37, 0, 0), partAt(36, 9, 9)))...)
	for _, set := range []glyphSet{s, reversedSet(s)} {
		last, found := impl.GlyphNamed(set, "y")
		o, one := impl.WholeOutline(set, last)
		p, two := impl.AnchorOf(set, last, "top")
		none, three := impl.AnchorOf(set, last, "low")
		depth, four := impl.GlyphDepth(set, last)
		count, five := impl.LoopCount(set, last)
		check(t, "a whole glyph", show(found, impl.OutlineText(o), one, p, two, none, three, depth, four, count, five), show(true, "7,8 8,9\n", 0, at(40, -33), 0, pt{}, 3, 38, 0, 1, 0))
		check(t, "texts", impl.ValidGlyphSet(set), true)
		read, ok := impl.ReadSet(impl.SetText(set))
		check(t, "read back", show(read, ok), show(set, true))
	}
	many := setOf(tower(leaf("a", "0,0"), 39, 6, 0, 0)...)
	for _, set := range []glyphSet{many, reversedSet(many)} {
		for i, name := range append([]string{"a"}, numbered("t", 39)...) {
			k, _ := impl.GlyphNamed(set, name)
			count, one := impl.LoopCount(set, k)
			depth, two := impl.GlyphDepth(set, k)
			o, three := impl.WholeOutline(set, k)
			want := show([]int64{1, 6, 13}[min(i, 2)], 0, i, 0, []int64{1, 6, 0}[min(i, 2)], []int64{0, 0, 5}[min(i, 2)])
			check(t, "of many loops "+name, show(count, one, depth, two, len(o.Loops), three), want)
		}
	}
}

// TestFarMoves has moves that lead far out of the range and back.
func TestFarMoves(t *testing.T) {
	const m = impl.MaxCoord
	for _, last := range []pt{at(0, 0), at(m-5, 0), at(m-4, 0), at(m-3, 0), at(m-2, 0), at(-m, 0), at(0, m-5), at(0, m-4), at(0, m-3), at(0, -m), at(m, m)} {
		glyphs, place := tower(withAnchors(leaf("a", "0,0 5,5"), anchorAt("top", 3, 4)), 39, 1, m, -m), pt{}
		for i := 20; i < 39; i++ {
			glyphs[i].Parts[0].Move = at(-m, m)
		}
		glyphs[39].Parts[0].Move = last
		for i, g := range glyphs {
			if i > 0 {
				place = at(place.X+g.Parts[0].Move.X, place.Y+g.Parts[0].Move.Y)
			}
			low, high, top := place, at(place.X+5, place.Y+5), at(place.X+3, place.Y+4)
			whole, code, due := []loop(nil), impl.ErrRange, impl.ErrRange
			if isPlace(low) && isPlace(high) {
				whole, code = []loop{{Knots: []impl.Knot{{At: low, On: true}, {At: high, On: true}}}}, impl.OK
			}
			if isPlace(top) {
				due = impl.OK
			} else {
				top = pt{}
			}
			o, one := impl.WholeOutline(setOf(glyphs...), int64(i))
			p, two := impl.AnchorOf(setOf(glyphs...), int64(i), "top")
			check(t, show("far moves", last, g.Name), show(o.Loops, one, p, two), show(whole, code, top, due))
		}
		check(t, "the moves lead back", place, last)
	}
}

func TestAnchorOf(t *testing.T) {
	s := setOf(withAnchors(leaf("a"), anchorAt("top", 1, 2), anchorAt("low", 3, 4)), withAnchors(leaf("b"), anchorAt("mid", 5, 6), anchorAt("top", 7, 8)), compound("c", partAt(0, 10, 20), partAt(1, 100, 200)), withAnchors(compound("d", partAt(2, 1000, 2000), partAt(1, 0, 0)), anchorAt("low", 9, 9)), compound("e", partAt(5, 0, 0), partAt(3, -1, -1)), leaf("f"),
		compound("g", partAt(0, 262144, 0), partAt(1, 0, 0)))
	cases := []struct {
		i    int64
		name string
		want string
	}{
		{0, "top", "[{X:1 Y:2} 0]"}, {0, "low", "[{X:3 Y:4} 0]"}, {0, "mid", "[{X:0 Y:0} 3]"}, {2, "top", "[{X:11 Y:22} 0]"}, {2, "low", "[{X:13 Y:24} 0]"}, {2, "mid", "[{X:105 Y:206} 0]"}, {2, "non", "[{X:0 Y:0} 3]"},
		{3, "low", "[{X:9 Y:9} 0]"}, {3, "top", "[{X:1011 Y:2022} 0]"}, {3, "mid", "[{X:1105 Y:2206} 0]"}, {4, "low", "[{X:8 Y:8} 0]"}, {4, "mid", "[{X:1104 Y:2205} 0]"}, {5, "top", "[{X:0 Y:0} 3]"}, {5, "", "[{X:0 Y:0} 3]"}, {0, "to", "[{X:0 Y:0} 3]"}, {0, "TOP", "[{X:0 Y:0} 3]"},
		// The first part that has the anchor counts, even if its point is out of the range.
		{6, "top", "[{X:0 Y:0} 2]"}, {6, "mid", "[{X:5 Y:6} 0]"}, {7, "top", "[{X:0 Y:0} 2]"}, {7, "none", "[{X:0 Y:0} 2]"}, {-1, "top", "[{X:0 Y:0} 2]"}, {40, "top", "[{X:0 Y:0} 2]"},
	}
	for _, c := range cases {
		p, code := impl.AnchorOf(s, c.i, c.name)
		check(t, show("AnchorOf", c.i, c.name), show(p, code), c.want)
	}
}

// TestGlyphIndexes has sets that are not valid, and numbers that are not the index of a glyph.
func TestGlyphIndexes(t *testing.T) {
	results := func(s glyphSet, i int64) []string {
		users, one := impl.GlyphUsers(s, i)
		depth, two := impl.GlyphDepth(s, i)
		count, three := impl.LoopCount(s, i)
		whole, four := impl.WholeOutline(s, i)
		place, five := impl.AnchorOf(s, i, "top")
		return []string{show(users, one), show(depth, two), show(count, three), show(whole, four), show(place, five)}
	}
	zero := func(code int64) []string {
		return []string{show([]int64(nil), code), show(0, code), show(0, code), show(outline{}, code), show(pt{}, code)}
	}
	for _, s := range badSets() {
		for _, i := range []int64{0, 1, -1, 40, 5000} {
			check(t, show("a set that is not valid", s, i), show(results(s, i)), show(zero(impl.ErrInvalid)))
		}
	}
	for _, s := range goodSets() {
		for _, i := range append(extremeNumbers(), int64(len(s.Glyphs)), int64(len(s.Glyphs))+1) {
			if i < 0 || i >= int64(len(s.Glyphs)) {
				check(t, show("no index", s, i), show(results(s, i)), show(zero(impl.ErrRange)))
			}
		}
	}
}

// wantedGlyphs reads glyphs by the rules of the document.
func wantedGlyphs(s string) ([]glyph, bool) {
	var list []glyph
	last := 5
	for s != "" {
		line, rest, ended := strings.Cut(s, "\n")
		words := strings.Split(line, " ")
		rank := slices.Index([]string{"glyph", "loop", "part", "anchor", "hints", "end"}, words[0])
		follows := rank > last || rank == last && rank >= 1 && rank <= 3
		if last == 5 {
			follows = rank == 0
			list = append(list, glyph{})
		}
		if !ended || rank < 0 || !follows || !readsLine(&list[len(list)-1], rank, words) {
			return nil, false
		}
		last, s = rank, rest
	}
	return list, last == 5
}

// readsLine adds what a line says to a glyph, and reports whether it is in its form.
func readsLine(g *glyph, rank int, words []string) bool {
	if len(words) != []int{4, len(words), 3, 3, 2, 1}[rank] {
		return false
	}
	switch rank {
	case 0:
		code, one := canonicalNumber(words[2])
		advance, two := canonicalNumber(words[3])
		g.Name, g.Code, g.Advance = words[1], code, advance
		return one && two
	case 1:
		o, ok := wantedOutline(strings.Join(words[1:], " ") + "\n")
		g.Outline.Loops = append(g.Outline.Loops, o.Loops...)
		return ok && len(words) > 1
	case 2:
		index, one := canonicalNumber(words[1])
		move, two := wantedPt(words[2])
		g.Parts = append(g.Parts, part{Glyph: index, Move: move})
		return one && two
	case 3:
		place, ok := wantedPt(words[2])
		g.Anchors = append(g.Anchors, anchor{Name: words[1], At: place})
		return ok
	case 4:
		bytes, err := hex.DecodeString(words[1])
		g.Hints = string(bytes)
		return err == nil && len(bytes) > 0 && words[1] == strings.ToLower(words[1])
	default:
		return true
	}
}

func wantedGlyph(s string) (glyph, bool) {
	list, ok := wantedGlyphs(s)
	if !ok || len(list) != 1 || !glyphIsValid(list[0]) {
		return glyph{}, false
	}
	return list[0], true
}

func wantedSet(s string) (glyphSet, bool) {
	line, rest, ended := strings.Cut(s, "\n")
	number, isUnit := strings.CutPrefix(line, "unit ")
	unit, isNumber := canonicalNumber(number)
	list, ok := wantedGlyphs(rest)
	read := glyphSet{Unit: unit, Glyphs: list}
	if !ended || !isUnit || !isNumber || !ok || !setIsValid(read) {
		return glyphSet{}, false
	}
	return read, true
}

func checkReadGlyph(t *testing.T, s string) bool {
	t.Helper()
	got, ok := impl.ReadGlyph(s)
	want, due := wantedGlyph(s)
	check(t, fmt.Sprintf("ReadGlyph %.200q", s), show(got, ok), show(want, due))
	return due
}

func checkReadSet(t *testing.T, s string) bool {
	t.Helper()
	got, ok := impl.ReadSet(s)
	want, due := wantedSet(s)
	check(t, fmt.Sprintf("ReadSet %.200q", s), show(got, ok), show(want, due))
	return due
}

// TestGlyphTexts is promise 18 for texts.
func TestGlyphTexts(t *testing.T) {
	for text, g := range goodGlyphs() {
		check(t, "GlyphText", impl.GlyphText(g), text)
		check(t, "is read: "+text, checkReadGlyph(t, text), true)
		got, ok := impl.ReadGlyph(text)
		check(t, "ReadGlyph", show(got, ok), show(g, true))
		check(t, "is a set: "+text, checkReadSet(t, text), false)
		for _, bad := range []string{text + text, text + " ", text + "\n", " " + text, "\n" + text, text[:len(text)-1], text + "end\n", text + "glyph", strings.ReplaceAll(text, "\n", "\r\n"), strings.ReplaceAll(text, " ", "  "), strings.ToUpper(text), strings.Replace(text, "glyph", "Glyph", 1), "unit 1000\n" + text} {
			check(t, "is read: "+bad, checkReadGlyph(t, bad), false)
		}
	}
	random := fixedRandom()
	for range 1000 {
		g := randomGlyph(random, fmt.Sprint("g", random.Intn(9)), random.Perm(1+random.Intn(40)))
		got, ok := impl.ReadGlyph(impl.GlyphText(g))
		check(t, "read back: "+impl.GlyphText(g), show(got, ok), show(g, true))
	}
	for _, s := range manySets(300) {
		text := "unit " + fmt.Sprint(s.Unit) + "\n"
		for _, g := range s.Glyphs {
			text += impl.GlyphText(g)
		}
		check(t, "SetText", impl.SetText(s), text)
		got, ok := impl.ReadSet(text)
		check(t, "ReadSet", show(got, ok), show(s, true))
		check(t, "the same set", impl.SameGlyphSet(got, s), true)
		for _, bad := range []string{text + text, text + "\n", " " + text, text[:len(text)-1], text + "end\n", text + "loop 0,0\n", strings.TrimPrefix(text, "unit "), strings.Replace(text, "unit ", "unit 0", 1), strings.Replace(text, "unit ", "units ", 1), text[strings.Index(text, "\n")+1:]} {
			check(t, "is read: "+bad, checkReadSet(t, bad), false)
		}
	}
}

func TestReadGlyphOthers(t *testing.T) {
	for _, s := range append(oddTexts(), "glyph a 0 0\n", "glyph a 0 0\nend", "end\n", "glyph a 0\nend\n", "glyph a 0 0 0\nend\n", "glyph  0 0\nend\n", "glyph a 65536 0\nend\n", "glyph a -2 0\nend\n", "glyph a 0 -1\nend\n", "glyph a 0 262145\nend\n", "glyph a 0 01\nend\n", "glyph a +0 0\nend\n", "glyph A 0 0\nend\n", "glyph abcdefghijklm 0 0\nend\n",
		"glyph a 0 0\nloop\nend\n", "glyph a 0 0\nloop \nend\n", "glyph a 0 0\nloop ~0,0\nend\n", "glyph a 0 0\nloop 0,0 \nend\n", "glyph a 0 0\nloop 0,0\n0,0\nend\n", "glyph a 0 0\nloop 0,0\npart 0 0,0\nend\n", "glyph a 0 0\npart 0 0,0\nloop 0,0\nend\n", "glyph a 0 0\n"+strings.Repeat("loop 0,0\n", 13)+"end\n", "glyph a 0 0\nloop "+repeated("0,0", "1,1", 61)+"\nend\n",
		"glyph a 0 0\npart\nend\n", "glyph a 0 0\npart 0\nend\n", "glyph a 0 0\npart 40 0,0\nend\n", "glyph a 0 0\npart -1 0,0\nend\n", "glyph a 0 0\npart 0 0,0 0,0\nend\n", "glyph a 0 0\npart 0 262145,0\nend\n", "glyph a 0 0\npart 0 0 0\nend\n", "glyph a 0 0\n"+strings.Repeat("part 0 0,0\n", 7)+"end\n", "glyph a 0 0\n"+strings.Repeat("part 0 0,0\n", 100000)+"end\n",
		"glyph a 0 0\nanchor top 0,0\npart 0 0,0\nend\n", "glyph a 0 0\nanchor top 0,0\nloop 0,0\nend\n", "glyph a 0 0\nanchor top 0,0\nanchor top 1,1\nend\n", "glyph a 0 0\nanchor Top 0,0\nend\n", "glyph a 0 0\nanchor top\nend\n", "glyph a 0 0\nanchor  0,0\nend\n", "glyph a 0 0\nanchor top 0,262145\nend\n", "glyph a 0 0\nanchor a 0,0\nanchor b 0,0\nanchor c 0,0\nanchor d 0,0\nanchor e 0,0\nanchor f 0,0\nanchor g 0,0\nend\n",
		"glyph a 0 0\nhints\nend\n", "glyph a 0 0\nhints \nend\n", "glyph a 0 0\nhints 0\nend\n", "glyph a 0 0\nhints 000\nend\n", "glyph a 0 0\nhints 0A\nend\n", "glyph a 0 0\nhints 0g\nend\n", "glyph a 0 0\nhints g0\nend\n", "glyph a 0 0\nhints 00 00\nend\n", "glyph a 0 0\nhints 00\nhints 00\nend\n", "glyph a 0 0\nhints 00\nanchor top 0,0\nend\n", "glyph a 0 0\nhints 00\nloop 0,0\nend\n", "glyph a 0 0\nhints -1\nend\n", "glyph a 0 0\nhints +f\nend\n",
		"glyph a 0 0\nhints "+strings.Repeat("00", 401)+"\nend\n", "glyph a 0 0\nhints "+strings.Repeat("00", 100000)+"\nend\n", "loop 0,0\nglyph a 0 0\nend\n", "end\nglyph a 0 0\nend\n", "glyph a 0 0\nend\nend\n", "glyph a 0 0\nend\nglyph b 0 0\nend\n", "glyph a 0 0\nend \n", "glyph a 0 0\nend 0\n", "glyph a 0 0\n\nend\n", "glyph a 0 0\nx\nend\n", "glyph a 0 0\nglyph a 0 0\nend\n", "\x00glyph a 0 0\nend\n", "glyph a 0 0\nend\n\x00") {
		check(t, fmt.Sprintf("is read: %.80q", s), checkReadGlyph(t, s), false)
		check(t, fmt.Sprintf("is a set: %.80q", s), checkReadSet(t, s), false)
	}
	for _, s := range []string{"unit 1000", "unit 15\n", "unit 16385\n", "unit\n", "unit \n", "unit 1000 \n", "unit 1000\n\n", "1000\n", "unit 1000\nunit 1000\n", "unit 01000\n", "units 1000\n", "unit 1000 1000\n", "unit -1000\n", "\n", "\nunit 1000\n", "unit 1000\nglyph a 0 0\n", "unit 1000\nend\n", "unit 1000\nglyph a 0 0\nend\nglyph a 1 0\nend\n", "unit 1000\nglyph a 0 0\nend\nglyph b 0 0\nend\n",
		"unit 1000\nglyph a 0 0\npart 0 0,0\nend\n", "unit 1000\nglyph a 0 0\npart 1 0,0\nend\n", "unit 1000\nglyph a 0 0\npart 1 0,0\nend\nglyph b 1 0\npart 0 0,0\nend\n", "glyph a 0 0\nend\nunit 1000\n", "unit 1000\nglyph a 0 0\nend\nunit 1000\n", "unit 1000\nloop 0,0\nglyph a 0 0\nend\n", "unit 1000\n" + strings.Repeat("glyph a -1 0\nend\n", 100000), "unit 1000\n" + strings.Repeat("\n", 100000), "unit 1000\n" + strings.Repeat("loop 0,0\n", 100000), strings.Repeat("unit 1000\n", 100000)} {
		check(t, fmt.Sprintf("is read: %.80q", s), checkReadSet(t, s), false)
		check(t, fmt.Sprintf("is a glyph: %.80q", s), checkReadGlyph(t, s), false)
	}
	for _, s := range []string{"unit 16\n", "unit 16384\n", "unit 1000\nglyph a -1 0\nend\nglyph b -1 0\nend\n", "unit 1000\nglyph a 0 0\npart 1 0,0\nend\nglyph b 1 0\nend\n", "unit 1000\nglyph a 0 0\nhints 656e640a\nend\n"} {
		check(t, fmt.Sprintf("is read: %.80q", s), checkReadSet(t, s), true)
	}
}

// TestGlyphTextsEdited changes texts by a byte, a word or a line.
func TestGlyphTextsEdited(t *testing.T) {
	t.Parallel()
	one := "glyph ab 12 34\nloop 0,0 ~8,-1 5,5\nloop 1,2\nanchor top 1,2\nanchor low -3,4\nhints 0a1f\nend\n"
	two := "glyph b -1 0\npart 0 1,2\npart 0 -3,0\nanchor a 0,0\nend\n"
	read := map[bool]int{}
	for _, text := range []string{one, two} {
		for _, s := range edited(text, " -,019af~\n.", "", "0,0", "~1,1", "x", "0", "\n", "end\n", "39", "40") {
			read[checkReadGlyph(t, s)]++
			read[checkReadSet(t, "unit 1000\n"+one[:strings.Index(one, "\n")+1]+"end\n"+s)]++
		}
		lines := strings.SplitAfter(text, "\n")
		for i := range lines {
			for k := range lines {
				moved := slices.Insert(slices.Delete(slices.Clone(lines), i, i+1), k, lines[i])
				twice := slices.Insert(slices.Clone(lines), k, lines[i])
				for _, list := range [][]string{moved, twice, slices.Delete(slices.Clone(lines), min(i, k), max(i, k))} {
					read[checkReadGlyph(t, strings.Join(list, ""))]++
					read[checkReadSet(t, "unit 16\n"+strings.Join(list, ""))]++
				}
			}
		}
	}
	if read[true] < 400 || read[false] < 400 {
		t.Errorf("too few texts are read, or are not: %v", read)
	}
}

// glyphArguments are the arguments of all functions of chapter 17.
type glyphArguments struct {
	s, other    glyphSet
	g, second   glyph
	name, text  string
	char, index int64
}

// glyphResults are what these functions return.
type glyphResults struct {
	flags             []bool
	named, ofChar     int64
	added             glyphSet
	users             []int64
	depth, count      int64
	whole             outline
	place             pt
	texts             []string
	read              glyph
	readSet           glyphSet
	ok, okChar, okOne bool
	okSet             bool
	codes             []int64
}

func glyphResultsOf(a glyphArguments) glyphResults {
	r := glyphResults{codes: make([]int64, 6)}
	r.flags = []bool{impl.ValidGlyph(a.g), impl.SameGlyph(a.g, a.second), impl.ValidGlyphSet(a.s), impl.SameGlyphSet(a.s, a.other)}
	r.named, r.ok = impl.GlyphNamed(a.s, a.name)
	r.ofChar, r.okChar = impl.GlyphOfChar(a.s, a.char)
	r.added, r.codes[0] = impl.AddGlyph(a.s, a.g)
	r.users, r.codes[1] = impl.GlyphUsers(a.s, a.index)
	r.depth, r.codes[2] = impl.GlyphDepth(a.s, a.index)
	r.count, r.codes[3] = impl.LoopCount(a.s, a.index)
	r.whole, r.codes[4] = impl.WholeOutline(a.s, a.index)
	r.place, r.codes[5] = impl.AnchorOf(a.s, a.index, a.name)
	r.texts = []string{impl.GlyphText(a.g), impl.SetText(a.s)}
	r.read, r.okOne = impl.ReadGlyph(a.text)
	r.readSet, r.okSet = impl.ReadSet(a.text)
	return r
}

// checkZero holds everything that comes with an error or with false to be 0.
func (r glyphResults) checkZero(t *testing.T) {
	t.Helper()
	zero := []bool{show(r.added) == show(glyphSet{}), len(r.users) == 0, r.depth == 0, r.count == 0, len(r.whole.Loops) == 0, r.place == pt{}}
	for i, code := range r.codes {
		if code != impl.OK && !zero[i] {
			t.Errorf("result %d is not 0 though the code is %d: %+v", i, code, r)
		}
	}
	for i, ok := range []bool{r.ok, r.okChar, r.okOne, r.okSet} {
		if !ok && !([]bool{r.named == 0, r.ofChar == 0, show(r.read) == show(glyph{}), show(r.readSet) == show(glyphSet{})})[i] {
			t.Errorf("result %d is not 0 though it comes with false: %+v", i, r)
		}
	}
}

// overwriteGlyphs sets all memory of glyphs, list by list, and holds the others to stay as they are.
func overwriteGlyphs(t *testing.T, glyphs ...glyph) {
	t.Helper()
	for i, g := range glyphs {
		later := show(glyphs[i+1:])
		for k, l := range g.Outline.Loops {
			before := show(g.Outline.Loops[k+1:], g.Parts, g.Anchors)
			overwrite(l.Knots, impl.Knot{At: at(55, 55)})
			check(t, "later lists of a glyph", show(g.Outline.Loops[k+1:], g.Parts, g.Anchors), before)
		}
		overwrite(g.Outline.Loops, loop{})
		overwrite(g.Parts, part{Glyph: 55})
		overwrite(g.Anchors, anchor{Name: "scribble"})
		check(t, "later glyphs", show(glyphs[i+1:]), later)
	}
}

func (r glyphResults) overwriteResults(t *testing.T) {
	t.Helper()
	overwriteGlyphs(t, slices.Concat([]glyph{{Outline: r.whole}, r.read}, r.added.Glyphs, r.readSet.Glyphs)...)
	overwrite(r.added.Glyphs, glyph{Name: "scribble"})
	overwrite(r.readSet.Glyphs, glyph{Name: "scribble"})
	overwrite(r.users, 55)
}

// roomyGlyph returns an equal glyph, behind whose lists there is room that is not empty.
func roomyGlyph(g glyph) glyph {
	g.Outline, g.Parts, g.Anchors = roomyOutline(g.Outline), roomySlice(g.Parts, partAt(77, 7, 7)), roomySlice(g.Anchors, anchorAt("guard", 7, 7))
	return g
}

func roomySet(s glyphSet) glyphSet {
	list := roomySlice(s.Glyphs, leaf("guard"))
	for i, g := range list {
		list[i] = roomyGlyph(g)
	}
	return glyphSet{Unit: s.Unit, Glyphs: list}
}

func glyphMemory(glyphs ...glyph) string {
	var all []any
	for _, g := range glyphs {
		all = append(all, outlineMemory(g.Outline), g.Parts[:cap(g.Parts)], g.Anchors[:cap(g.Anchors)])
	}
	return show(glyphs, all)
}

// TestGlyphsTotal is promise 1 for chapter 17: all functions return for all arguments, twice alike, in new memory, and keep their arguments.
func TestGlyphsTotal(t *testing.T) {
	t.Parallel()
	random, goods := fixedRandom(), map[int]int{}
	sets, glyphs := append(badSets(), goodSets()...), append(badGlyphs(), goodGlyphList()...)
	texts := oddTexts()
	for i := range 500 {
		a := glyphArguments{s: randomSet(random), other: pick(random, sets), g: pick(random, glyphs), second: pick(random, glyphs), name: pick(random, []string{"top", "g0", "low", "", "a"}), text: pick(random, texts), char: 99 + random.Int63n(4), index: random.Int63n(9)}
		switch random.Intn(4) {
		case 0:
			a.s = a.other
		case 1:
			a.s = setOf(withAnchors(leaf("g0", "0,0"), anchorAt("top", 5, 5), anchorAt("low", 6, 6)), randomGlyph(random, "a", []int{0}), randomGlyph(random, "g2", []int{1}))
			a.g = randomGlyph(random, "new", []int{0})
			a.text, a.index = impl.GlyphText(a.g), random.Int63n(3)
		case 2:
			a.index, a.char = pick(random, extremeNumbers()), pick(random, extremeNumbers())
		default:
			a.text = impl.SetText(a.s)
		}
		if i%7 == 0 {
			a.other, a.second = copyOfSet(a.s), copyOfGlyph(a.g)
		}
		a.s, a.other, a.g, a.second = roomySet(a.s), roomySet(a.other), roomyGlyph(a.g), roomyGlyph(a.second)
		memory := func() string {
			return glyphMemory(slices.Concat(a.s.Glyphs[:cap(a.s.Glyphs)], a.other.Glyphs[:cap(a.other.Glyphs)], []glyph{a.g, a.second})...)
		}
		before := memory()
		first := glyphResultsOf(a)
		first.checkZero(t)
		for k, code := range first.codes {
			if code == impl.OK {
				goods[k]++
			}
		}
		shown := show(first)
		check(t, "arguments after all calls", memory(), before)
		first.overwriteResults(t)
		check(t, "arguments after results are overwritten", memory(), before)
		if shown != show(glyphResultsOf(a)) {
			t.Fatal("equal arguments have different results: ", a)
		}
	}
	for i := range 6 {
		if goods[i] < 50 {
			t.Errorf("too few results without an error: %v", goods)
		}
	}
}
