package tests

import (
	"encoding/binary"
	"math/rand"
	"regexp"
	"slices"
	"strconv"
	"strings"
	"testing"

	"loop.example/g00883/impl"
)

type hint = impl.Hint

func TestHintConstants(t *testing.T) {
	got := []int{impl.HtStop, impl.HtPop, impl.HtDup, impl.HtSwap, impl.HtAdd, impl.HtSub, impl.HtMul, impl.HtDiv, impl.HtNeg, impl.HtAbs, impl.HtMin, impl.HtMax, impl.HtLess, impl.HtEqual, impl.HtNot, impl.HtRound,
		impl.HtAxisX, impl.HtAxisY, impl.HtRef, impl.HtGet, impl.HtOrig, impl.HtPut, impl.HtShift, impl.HtGrid, impl.HtLink, impl.HtStem, impl.HtEven, impl.HtSmooth, impl.HtTouch, impl.HtFree, impl.HtValue, impl.HtStore,
		impl.HtSize, impl.HtCount, impl.HtDelta, impl.HtIf, impl.HtElse, impl.HtEnd, impl.HtAgain, impl.HtPush, impl.HtWord, impl.HtState, impl.HtCut, impl.HtLeast, impl.HtRepeat}
	for code, constant := range got {
		check(t, "constant", constant, code)
	}
	check(t, "number of constants", len(got), len(wantedWords()))
	check(t, "MaxNest", impl.MaxNest, 6)
}

// wantedWords are the words of all codes, in order.
func wantedWords() []string {
	return strings.Fields("stop pop dup swap add sub mul div neg abs min max less equal not round axisx axisy ref get orig put shift grid link stem even smooth touch free value store size count delta if else end again push word state cut least repeat")
}

// limitsOf are the least and the greatest operand of a code, and its bytes; 0 if it has none.
func limitsOf(code int64) [3]int64 {
	switch code {
	case impl.HtPush:
		return [3]int64{-128, 127, 1}
	case impl.HtWord:
		return [3]int64{-32768, 32767, 2}
	case impl.HtState:
		return [3]int64{0, 5, 1}
	case impl.HtCut, impl.HtLeast:
		return [3]int64{0, 32767, 2}
	case impl.HtRepeat:
		return [3]int64{0, 127, 1}
	default:
		return [3]int64{}
	}
}

func hintIsValid(h hint) bool {
	limits := limitsOf(h.Code)
	return h.Code >= 0 && h.Code <= 44 && h.Operand >= limits[0] && h.Operand <= limits[1]
}

func areHints(list []hint) bool {
	return !slices.ContainsFunc(list, func(h hint) bool { return !hintIsValid(h) })
}

// hints returns the instructions of words with operands, separated by commas.
func hints(text string) []hint {
	var list []hint
	for _, line := range strings.FieldsFunc(text, func(r rune) bool { return r == ',' }) {
		word, operand, _ := strings.Cut(strings.TrimSpace(line), " ")
		n, _ := canonicalNumber(operand)
		h := hint{Code: int64(slices.Index(wantedWords(), word)), Operand: n}
		if h.Code < 0 {
			panic(line)
		}
		list = append(list, h)
	}
	return list
}

var (
	pairLetters = map[int64]byte{impl.HtIf: 'i', impl.HtElse: 'l', impl.HtEnd: 'e', impl.HtRepeat: 'r', impl.HtAgain: 'a'}
	emptyPairs  = strings.NewReplacer("ie", "", "ile", "", "ra", "")
)

// withoutPairs takes away all that is no part of pairs, and then pairs with nothing in between, as long as there are some.
func withoutPairs(list []hint) string {
	var letters []byte
	for _, h := range list {
		if letter, ok := pairLetters[h.Code]; ok {
			letters = append(letters, letter)
		}
	}
	text := string(letters)
	for {
		less := emptyPairs.Replace(text)
		if less == text {
			return text
		}
		text = less
	}
}

// deepest returns the greatest number of pairs that are begun and not ended.
func deepest(list []hint) int {
	depth, most := 0, 0
	for _, h := range list {
		switch h.Code {
		case impl.HtIf, impl.HtRepeat:
			depth++
		case impl.HtEnd, impl.HtAgain:
			depth--
		}
		most = max(most, depth)
	}
	return most
}

func areNested(list []hint) bool { return withoutPairs(list) == "" && deepest(list) <= 6 }

// wantedBytes are the bytes of a valid instruction.
func wantedBytes(h hint) []byte {
	list := []byte{byte(h.Code)}
	switch limitsOf(h.Code)[2] {
	case 1:
		list = append(list, byte(int8(h.Operand)))
	case 2:
		list = binary.BigEndian.AppendUint16(list, uint16(int16(h.Operand)))
	}
	return list
}

// wantedProgramOf tells what the document says of ProgramOf.
func wantedProgramOf(list []hint) (string, int64) {
	var program []byte
	for _, h := range list {
		program = append(program, wantedBytes(h)...)
	}
	switch {
	case !areHints(list):
		return "", impl.ErrInvalid
	case !areNested(list):
		return "", impl.ErrState
	case len(program) > 400:
		return "", impl.ErrFull
	default:
		return string(program), impl.OK
	}
}

// wantedHints tells what the document says of HintsOf.
func wantedHints(program string) ([]hint, bool) {
	var list []hint
	for rest := []byte(program); len(rest) > 0; {
		h := hint{Code: int64(rest[0])}
		size := int(limitsOf(h.Code)[2])
		if len(rest) < 1+size {
			return nil, false
		}
		switch size {
		case 1:
			h.Operand = int64(int8(rest[1]))
		case 2:
			h.Operand = int64(int16(binary.BigEndian.Uint16(rest[1:])))
		}
		list, rest = append(list, h), rest[1+size:]
	}
	if !areHints(list) || !areNested(list) || len(program) > 400 {
		return nil, false
	}
	return list, true
}

// wantedPartner tells what the document says of PartnerOf.
func wantedPartner(list []hint, index int64) (int64, int64) {
	switch {
	case !areHints(list) || !areNested(list):
		return 0, impl.ErrInvalid
	case index < 0 || index >= int64(len(list)):
		return 0, impl.ErrRange
	}
	partners := map[int64][]int64{impl.HtIf: {impl.HtElse, impl.HtEnd}, impl.HtElse: {impl.HtEnd}, impl.HtRepeat: {impl.HtAgain}}[list[index].Code]
	for k := index + 1; k < int64(len(list)); k++ {
		if slices.Contains(partners, list[k].Code) && withoutPairs(list[index+1:k]) == "" {
			return k, impl.OK
		}
	}
	return 0, impl.ErrState
}

// wantedLines are the lines of valid instructions.
func wantedLines(list []hint) string {
	var text strings.Builder
	for _, h := range list {
		text.WriteString(wantedWords()[h.Code])
		if limitsOf(h.Code)[2] > 0 {
			text.WriteString(" " + strconv.FormatInt(h.Operand, 10))
		}
		text.WriteString("\n")
	}
	return text.String()
}

// hintLine is a line of the text form, with or without an operand.
var hintLine = regexp.MustCompile(`\A([a-z]+)(?: (-?[0-9]+))?\n`)

// wantedAssembled tells what the document says of AssembleHints.
func wantedAssembled(text string) (string, int64) {
	var list []hint
	for text != "" {
		m := hintLine.FindStringSubmatch(text)
		if m == nil {
			return "", impl.ErrSyntax
		}
		n, isNumber := canonicalNumber(m[2])
		h := hint{Code: int64(slices.Index(wantedWords(), m[1])), Operand: n}
		if hasOperand := limitsOf(h.Code)[2] > 0; !hintIsValid(h) || hasOperand != isNumber || hasOperand != (m[2] != "") {
			return "", impl.ErrSyntax
		}
		list, text = append(list, h), text[len(m[0]):]
	}
	return wantedProgramOf(list)
}

// checkProgramOf holds ProgramOf, PartnerOf for all indices, and, if there is a program, all that is made of it.
func checkProgramOf(t *testing.T, list []hint) int64 {
	t.Helper()
	want, due := wantedProgramOf(list)
	program, code := impl.ProgramOf(list)
	if program != want || code != due {
		t.Errorf("ProgramOf(%v): got %q and %s, want %q and %s", list, program, impl.CodeName(code), want, impl.CodeName(due))
	}
	for i := int64(-1); i <= int64(len(list)); i++ {
		want, due := wantedPartner(list, i)
		if partner, code := impl.PartnerOf(list, i); partner != want || code != due {
			t.Errorf("PartnerOf(%v, %d): got %d and %s, want %d and %s", list, i, partner, impl.CodeName(code), want, impl.CodeName(due))
		}
	}
	if code == impl.OK {
		checkRestored(t, list, program)
	}
	return code
}

// checkRestored is promise 20: instructions are restored from their program and from its text.
func checkRestored(t *testing.T, list []hint, program string) {
	t.Helper()
	back, ok := impl.HintsOf(program)
	if !ok || !slices.Equal(back, list) || !impl.ValidHints(program) {
		t.Errorf("HintsOf(%q): got %v %v, want %v", program, back, ok, list)
	}
	text, code := impl.HintsText(program)
	if text != wantedLines(list) || code != impl.OK {
		t.Errorf("HintsText(%q): got %q and %s, want %q", program, text, impl.CodeName(code), wantedLines(list))
	}
	if again, code := impl.AssembleHints(text); again != program || code != impl.OK {
		t.Errorf("AssembleHints(%q): got %q and %s, want %q", text, again, impl.CodeName(code), program)
	}
}

// checkHintsOf holds all functions that take a program against the document.
func checkHintsOf(t *testing.T, program string) bool {
	t.Helper()
	want, due := wantedHints(program)
	list, ok := impl.HintsOf(program)
	if !slices.Equal(list, want) || ok != due || impl.ValidHints(program) != due {
		t.Errorf("HintsOf(%q): got %v %v, want %v %v", program, list, ok, want, due)
	}
	if text, code := impl.HintsText(program); (code == impl.OK) != due || text != wantedLines(want) || !due && code != impl.ErrInvalid {
		t.Errorf("HintsText(%q): got %q and %s", program, text, impl.CodeName(code))
	}
	if due {
		checkProgramOf(t, want)
	}
	return due
}

func checkAssembled(t *testing.T, text string) int64 {
	t.Helper()
	want, due := wantedAssembled(text)
	program, code := impl.AssembleHints(text)
	if program != want || code != due {
		t.Errorf("AssembleHints(%q): got %q and %s, want %q and %s", text, program, impl.CodeName(code), want, impl.CodeName(due))
	}
	return code
}

func TestHintNames(t *testing.T) {
	words := wantedWords()
	for code, word := range words {
		check(t, "word", impl.HintName(int64(code)), word)
		check(t, word, impl.HintNamed(word), int64(code))
		check(t, "capitals", impl.HintNamed(strings.ToUpper(word)), -1)
		for _, other := range edited(word, "exX \n\x00", "stop") {
			check(t, show("HintNamed", other), impl.HintNamed(other), int64(slices.Index(words, other)))
		}
	}
	for _, code := range append(extremeNumbers(), 44, 45, -1) {
		if code < 0 || code > 44 {
			check(t, show("HintName", code), impl.HintName(code), "")
		}
	}
	for _, s := range append(oddTexts(), "axisX", "HtPop", "jump") {
		check(t, show("HintNamed", s), impl.HintNamed(s), -1)
	}
}

// someOperands are the limits of all operands, and numbers beside them.
func someOperands() []int64 {
	list := append(extremeNumbers(), 44, 45)
	for _, n := range []int64{0, 5, 127, 128, 255, 256, 32767, 32768, 65535, 65536} {
		list = append(list, n-1, n, n+1, -n-1, -n, -n+1)
	}
	return list
}

func TestValidHint(t *testing.T) {
	valid := 0
	for code := int64(-3); code <= 300; code++ {
		for _, n := range someOperands() {
			h := hint{Code: code, Operand: n}
			check(t, show("ValidHint", h), impl.ValidHint(h), hintIsValid(h))
			if hintIsValid(h) {
				valid++
			}
		}
	}
	check(t, show("many are valid", valid), valid > 150, true)
	for _, code := range extremeNumbers() {
		h := hint{Code: code}
		check(t, show("ValidHint", h), impl.ValidHint(h), code >= 0 && code <= 44)
	}
	for _, text := range []string{"push -129", "push 128", "word -32769", "word 32768", "state -1", "state 6", "cut -1", "cut 32768", "least -1", "least 32768", "repeat -1", "repeat 128", "pop 1", "if -1", "stop 1", "delta 1", "again 5"} {
		check(t, text, impl.ValidHint(hints(text)[0]), false)
		checkProgramOf(t, hints(text))
	}
}

func TestHintBytes(t *testing.T) {
	for _, c := range []struct {
		text string
		want []byte
	}{
		{"push 3, grid", []byte{39, 3, 23}}, {"", nil}, {"stop", []byte{0}}, {"push -1", []byte{39, 255}}, {"push -128", []byte{39, 128}}, {"push 127", []byte{39, 127}}, {"push 0", []byte{39, 0}},
		{"word -2", []byte{40, 255, 254}}, {"word -32768", []byte{40, 128, 0}}, {"word 32767", []byte{40, 127, 255}}, {"word 258", []byte{40, 1, 2}}, {"word -256", []byte{40, 255, 0}}, {"word -1", []byte{40, 255, 255}}, {"word 0", []byte{40, 0, 0}},
		{"state 5, state 0", []byte{41, 5, 41, 0}}, {"cut 32767, cut 1", []byte{42, 127, 255, 42, 0, 1}}, {"least 256, least 0", []byte{43, 1, 0, 43, 0, 0}}, {"repeat 127, again", []byte{44, 127, 38}}, {"repeat 0, again", []byte{44, 0, 38}},
		{"word -2, if, push -1, else, repeat 2, state 5, again, end", []byte{40, 255, 254, 35, 39, 255, 36, 44, 2, 41, 5, 38, 37}},
	} {
		program, code := impl.ProgramOf(hints(c.text))
		check(t, c.text, show([]byte(program), code), show(c.want, impl.OK))
		checkProgramOf(t, hints(c.text))
	}
	for code := range int64(45) {
		for _, n := range someOperands() {
			checkProgramOf(t, []hint{{Code: code, Operand: n}})
			checkProgramOf(t, []hint{{Code: impl.HtIf}, {Code: impl.HtRepeat, Operand: 3}, {Code: code, Operand: n}, {Code: impl.HtAgain}, {Code: impl.HtEnd}})
		}
	}
}

func TestProgramOfErrors(t *testing.T) {
	many := func(text string, count int) []hint { return slices.Repeat(hints(text), count) }
	for _, c := range []struct {
		what string
		list []hint
		code int64
	}{
		{"400 bytes", many("pop", 400), impl.OK}, {"401 bytes", many("pop", 401), impl.ErrFull},
		{"200 times 2 bytes", many("push -1", 200), impl.OK}, {"201 times 2 bytes", many("push -1", 201), impl.ErrFull},
		{"133 times 3 bytes and 1", append(many("cut 1", 133), hints("pop")...), impl.OK}, {"133 times 3 bytes and 2", append(many("word 1", 133), hints("push 0")...), impl.ErrFull},
		{"100 times 4 bytes", many("repeat 3, pop, again", 100), impl.OK}, {"100 times 4 bytes and 1", append(many("least 3, pop", 100), hints("pop")...), impl.ErrFull},
		{"not ended and too many", append(many("pop", 500), hints("if")...), impl.ErrState}, {"ended and too many", append(hints("end"), many("pop", 500)...), impl.ErrState},
		{"invalid, not ended and too many", append(append(many("pop", 500), hints("if")...), hint{Code: 45}), impl.ErrInvalid}, {"invalid first", append([]hint{{Code: -1}}, hints("else")...), impl.ErrInvalid},
		{"invalid last", append(hints("end"), hint{Code: impl.HtPop, Operand: 1}), impl.ErrInvalid},
	} {
		check(t, c.what, checkProgramOf(t, c.list), c.code)
	}
}

// TestNested goes through all short lists of instructions that begin and end pairs.
func TestNested(t *testing.T) {
	t.Parallel()
	kinds := hints("if, else, end, repeat 2, again, pop")
	codes := map[int64]int{}
	var extend func(list []hint, more int)
	extend = func(list []hint, more int) {
		codes[checkProgramOf(t, list)]++
		if more == 0 {
			return
		}
		for _, h := range kinds {
			extend(append(slices.Clone(list), h), more-1)
		}
	}
	extend(nil, 6)
	check(t, show("both codes", codes), codes[impl.OK] > 300 && codes[impl.ErrState] > 50000, true)
	for _, c := range []struct {
		text string
		code int64
	}{
		{"if, end", 0}, {"if, else, end", 0}, {"repeat 1, again", 0}, {"if, if, else, end, else, if, else, end, end", 0}, {"if, repeat 1, if, else, end, again, else, end", 0},
		{"if", 6}, {"else", 6}, {"end", 6}, {"repeat 1", 6}, {"again", 6}, {"end, if", 6}, {"again, repeat 1", 6}, {"if, again", 6}, {"repeat 1, end", 6}, {"if, repeat 1, end, again", 6}, {"repeat 1, if, again, end", 6},
		{"if, else, else, end", 6}, {"if, else, repeat 1, else, again, end", 6}, {"repeat 1, else, again", 6}, {"if, repeat 1, else, again, end", 6}, {"if, end, else", 6}, {"if, else", 6}, {"if, end, end", 6}, {"if, if, end", 6}, {"else, if, end", 6},
	} {
		check(t, c.text, checkProgramOf(t, hints(c.text)), c.code)
	}
}

func TestNestDepth(t *testing.T) {
	opening, closing := hints("if, repeat 3, if, if, repeat 1, repeat 0, if"), hints("end, again, again, end, end, again, end")
	for depth := range 8 {
		list := append(slices.Clone(opening[:depth]), hints("pop")...)
		list = append(list, closing[7-depth:]...)
		due := int64(impl.OK)
		if depth > impl.MaxNest {
			due = impl.ErrState
		}
		check(t, show("depth", depth), checkProgramOf(t, list), due)
		for i := range list {
			// Pairs that are ended do not count, and neither does an HtElse.
			check(t, show("not deeper", depth), checkProgramOf(t, slices.Concat(hints("if, else, end, repeat 2, again"), list, list)), due)
			checkProgramOf(t, slices.Insert(slices.Clone(list), i, hints("else")...))
			checkProgramOf(t, slices.Delete(slices.Clone(list), i, i+1))
			code := checkProgramOf(t, slices.Insert(slices.Clone(list), i, hints("if, end")...))
			check(t, show("one more pair", depth, i), code == impl.OK, max(depth, min(i, 2*depth+1-i)+1) <= impl.MaxNest)
		}
	}
	check(t, "begun and never ended", checkProgramOf(t, opening), impl.ErrState)
	check(t, "the seventh pair is begun within an HtElse", checkProgramOf(t, hints("if, if, if, if, if, if, else, repeat 1, again, end, end, end, end, end, end")), impl.ErrState)
	check(t, "an HtElse within six pairs", checkProgramOf(t, hints("if, if, if, if, if, if, else, end, else, repeat 1, again, end, else, end, end, end, end")), impl.OK)
	check(t, "pairs one after the other", checkProgramOf(t, slices.Repeat(hints("if, end"), 200)), impl.OK)
}

func TestPartnerOf(t *testing.T) {
	list := hints("word -2, if, push -1, else, repeat 2, state 5, again, end")
	for i, want := range map[int64][2]int64{-1: {0, 2}, 0: {0, 6}, 1: {3, 0}, 2: {0, 6}, 3: {7, 0}, 4: {6, 0}, 5: {0, 6}, 6: {0, 6}, 7: {0, 6}, 8: {0, 2}} {
		partner, code := impl.PartnerOf(list, i)
		check(t, show("PartnerOf", i), [2]int64{partner, code}, want)
	}
	for _, c := range []struct {
		text       string
		index      int64
		want, code int64
	}{
		{"if, end", 0, 1, 0}, {"if, else, end", 0, 1, 0}, {"if, else, end", 1, 2, 0}, {"if, end", 1, 0, 6}, {"repeat 0, again", 0, 1, 0}, {"repeat 0, again", 1, 0, 6}, {"if, else, end", 2, 0, 6},
		{"if, if, else, end, end", 0, 4, 0}, {"if, if, end, else, end", 0, 3, 0}, {"if, if, else, end, end", 1, 2, 0}, {"pop, if, repeat 1, pop, again, end", 1, 5, 0},
		{"", 0, 0, 2}, {"", -1, 0, 2}, {"if, end", 2, 0, 2}, {"if, end", -1, 0, 2}, {"if, end", 1 << 62, 0, 2}, {"if, end", -1 << 63, 0, 2},
		// Instructions that are not nested are no valid argument here.
		{"if", 0, 0, 1}, {"if", 5, 0, 1}, {"pop, end", 0, 0, 1}, {"if, else, else, end", 0, 0, 1}, {"pop 1", 0, 0, 1}, {"if, end, pop 1", 0, 0, 1}, {"if, end, pop 1", 9, 0, 1}, {"repeat 1, pop", 7, 0, 1},
	} {
		partner, code := impl.PartnerOf(hints(c.text), c.index)
		check(t, show("PartnerOf", c.text, c.index), [2]int64{partner, code}, [2]int64{c.want, c.code})
	}
	long := slices.Concat(hints("if"), slices.Repeat(hints("pop"), 1000), hints("end"))
	partner, code := impl.PartnerOf(long, 0)
	check(t, "more instructions than a program may have", [2]int64{partner, code}, [2]int64{1001, impl.OK})
}

// randomHints returns nested instructions with operands at their limits and in between.
func randomHints(random *rand.Rand, count, deeper int) []hint {
	var list []hint
	for range count {
		kind := random.Intn(12)
		inner := func() []hint { return randomHints(random, random.Intn(4), deeper-1) }
		switch {
		case kind == 0 && deeper > 0:
			list = slices.Concat(list, hints("if"), inner(), hints("end"))
		case kind == 1 && deeper > 0:
			list = slices.Concat(list, hints("if"), inner(), hints("else"), inner(), hints("end"))
		case kind == 2 && deeper > 0:
			list = slices.Concat(list, []hint{{Code: impl.HtRepeat, Operand: random.Int63n(128)}}, inner(), hints("again"))
		default:
			h := hint{Code: pick(random, []int64{random.Int63n(35), 39, 40, 41, 42, 43})}
			limits := limitsOf(h.Code)
			h.Operand = pick(random, []int64{limits[0], limits[1], limits[0] + random.Int63n(1+limits[1]-limits[0])})
			list = append(list, h)
		}
	}
	return list
}

// TestHintsRestored is promise 20 for random programs, and holds lists that differ a little against the document.
func TestHintsRestored(t *testing.T) {
	t.Parallel()
	random := fixedRandom()
	codes := map[int64]int{}
	for range 1500 {
		list := randomHints(random, random.Intn(12), 7)
		codes[checkProgramOf(t, list)]++
		if len(list) == 0 {
			continue
		}
		i, k := random.Intn(len(list)), random.Intn(len(list))
		other := slices.Clone(list)
		other[i], other[k] = other[k], other[i]
		codes[checkProgramOf(t, other)]++
		other[i].Operand += pick(random, []int64{-1, 1, 128, -256, 65536})
		codes[checkProgramOf(t, other)]++
	}
	check(t, show("all codes", codes), codes[impl.OK] > 1500 && codes[impl.ErrState] > 100 && codes[impl.ErrInvalid] > 500, true)
}

func TestHintsOf(t *testing.T) {
	t.Parallel()
	for _, c := range []struct {
		program string
		ok      bool
	}{
		{"", true}, {"\x00", true}, {"\x2d", false}, {"\xff", false}, {"\x27", false}, {"\x27\x80", true}, {"\x28", false}, {"\x28\x00", false}, {"\x28\xff\xff", true}, {"\x29\x05", true}, {"\x29\x06", false}, {"\x29\xff", false},
		{"\x2a\x7f\xff", true}, {"\x2a\x80\x00", false}, {"\x2b\xff\xff", false}, {"\x2b\x00", false}, {"\x2c\x7f\x26", true}, {"\x2c\x80\x26", false}, {"\x2c\x26", false}, {"\x2c\x00", false}, {"\x23\x25", true}, {"\x23", false}, {"\x27\x25", true}, {"\x25", false},
		{strings.Repeat("\x01", 400), true}, {strings.Repeat("\x01", 401), false}, {strings.Repeat("\x28\x01\x02", 133) + "\x27", false}, {strings.Repeat("\x28\x01\x02", 133) + "\x26", false}, {strings.Repeat("\x28\x01\x02", 133) + "\x01", true},
	} {
		check(t, show("HintsOf", c.program), checkHintsOf(t, c.program), c.ok)
	}
	programs := 0
	for first := range 256 {
		checkHintsOf(t, string([]byte{byte(first)}))
		for second := range 256 {
			if checkHintsOf(t, string([]byte{byte(first), byte(second)})) {
				programs++
			}
		}
	}
	// Two instructions without operands, if and end, push with any byte, and one of six states.
	check(t, "programs of two bytes", programs, 35*35+1+256+6)
}

func TestHintsOfEdited(t *testing.T) {
	t.Parallel()
	random := fixedRandom()
	counts := map[bool]int{}
	for range 60 {
		program, _ := impl.ProgramOf(randomHints(random, 1+random.Intn(6), 3))
		for _, other := range edited(program, "\x00\x23\x25\x27\x28\x80\xff") {
			counts[checkHintsOf(t, other)]++
		}
	}
	check(t, show("both kinds", counts), counts[true] > 1000 && counts[false] > 1000, true)
	for _, s := range oddTexts() {
		checkHintsOf(t, s)
	}
}

func TestAssembleHints(t *testing.T) {
	for _, c := range []struct {
		text, program string
		code          int64
	}{
		{"push 3\ngrid\n", "\x27\x03\x17", 0}, {"", "", 0}, {"word -2\nif\npush -1\nelse\nrepeat 2\nstate 5\nagain\nend\n", "\x28\xff\xfe\x23\x27\xff\x24\x2c\x02\x29\x05\x26\x25", 0},
		{"push -128\nword -32768\ncut 32767\n", "\x27\x80\x28\x80\x00\x2a\x7f\xff", 0}, {"stop\n", "\x00", 0}, {strings.Repeat("pop\n", 400), strings.Repeat("\x01", 400), 0},
		{"push", "", 7}, {"push 3", "", 7}, {"push\n", "", 7}, {"push \n", "", 7}, {"push 128\n", "", 7}, {"push -129\n", "", 7}, {"push 1 \n", "", 7}, {" push 1\n", "", 7}, {"push  1\n", "", 7}, {"push 01\n", "", 7}, {"push -0\n", "", 7}, {"push +1\n", "", 7},
		{"push 1 2\n", "", 7}, {"push x\n", "", 7}, {"jump\n", "", 7}, {"Pop\n", "", 7}, {"pop 0\n", "", 7}, {"pop \n", "", 7}, {"pop", "", 7}, {"pop\n\n", "", 7}, {"\n", "", 7}, {"\npop\n", "", 7}, {"pop\r\n", "", 7}, {"pop dup\n", "", 7}, {"pop\tdup\n", "", 7},
		{"cut -1\n", "", 7}, {"least 32768\n", "", 7}, {"state 6\n", "", 7}, {"state -1\n", "", 7}, {"repeat 128\nagain\n", "", 7}, {"word 32768\n", "", 7}, {"push 18446744073709551617\n", "", 7}, {"if 0\nend\n", "", 7},
		{"if\n", "", 6}, {"else\n", "", 6}, {"end\n", "", 6}, {"again\n", "", 6}, {"repeat 1\nend\n", "", 6}, {"if\nelse\nelse\nend\n", "", 6}, {"if\npop\n", "", 6},
		// The whole text is read before anything else, and pairs count before the length.
		{"if\npush 128\n", "", 7}, {"end\npop", "", 7}, {strings.Repeat("pop\n", 401), "", 5}, {strings.Repeat("pop\n", 401) + "if\n", "", 6}, {"if\n" + strings.Repeat("pop\n", 401) + "pop 1\n", "", 7}, {strings.Repeat("push -1\n", 201), "", 5},
	} {
		program, code := impl.AssembleHints(c.text)
		check(t, show("AssembleHints", c.text), show(program, code), show(c.program, c.code))
		checkAssembled(t, c.text)
	}
	for _, text := range oddTexts() {
		checkAssembled(t, text)
	}
}

func TestAssembleEdited(t *testing.T) {
	t.Parallel()
	random := fixedRandom()
	codes := map[int64]int{}
	for range 25 {
		text := wantedLines(randomHints(random, 1+random.Intn(6), 3))
		for _, other := range edited(text, "0129-\n efdi\x00", "pop", "5\npush") {
			codes[checkAssembled(t, other)]++
		}
		lines := strings.SplitAfter(text, "\n")
		for i := range lines {
			for _, other := range []string{"", "end\n", "if\n", "pop\n", "again\n", "push -128\n", "\n", "repeat 3\n"} {
				codes[checkAssembled(t, strings.Join(slices.Replace(slices.Clone(lines), i, i+1, other), ""))]++
			}
		}
	}
	check(t, show("all codes", codes), codes[impl.OK] > 200 && codes[impl.ErrState] > 100 && codes[impl.ErrSyntax] > 5000, true)
}

func TestHintsText(t *testing.T) {
	for _, c := range []struct {
		program, text string
		code          int64
	}{
		{"", "", 0}, {"\x27\x03\x17", "push 3\ngrid\n", 0}, {"\x28\xff\xfe\x27\xff", "word -2\npush -1\n", 0}, {"\x2a\x00\x00\x2b\x01\x00", "cut 0\nleast 256\n", 0},
		{"\x28\x00", "", 1}, {"\x2d", "", 1}, {"\x23", "", 1}, {strings.Repeat("\x01", 401), "", 1},
	} {
		text, code := impl.HintsText(c.program)
		check(t, show("HintsText", c.program), show(text, code), show(c.text, c.code))
	}
}

// hintResults are what the functions of chapter 19 return for some arguments, valid or not.
type hintResults struct {
	name, program, text, assembled string
	named, partner                 int64
	isValid, areRead, isProgram    bool
	list                           []hint
	codes                          [4]int64
}

func hintResultsOf(list []hint, number int64, text string) hintResults {
	var r hintResults
	r.name, r.named, r.isProgram = impl.HintName(number), impl.HintNamed(text), impl.ValidHints(text)
	r.isValid = impl.ValidHint(hint{Code: number, Operand: number}) || impl.ValidHint(hint{Code: number})
	r.list, r.areRead = impl.HintsOf(text)
	r.program, r.codes[0] = impl.ProgramOf(list)
	r.partner, r.codes[1] = impl.PartnerOf(list, number)
	r.text, r.codes[2] = impl.HintsText(text)
	r.assembled, r.codes[3] = impl.AssembleHints(text)
	return r
}

// checkZero holds everything that comes with an error to be 0.
func (r hintResults) checkZero(t *testing.T) {
	t.Helper()
	for i, empty := range []bool{r.program == "", r.partner == 0, r.text == "", r.assembled == ""} {
		check(t, show("zero with an error", i, r), r.codes[i] == impl.OK || empty, true)
	}
	check(t, show("no list with false", r), r.areRead || len(r.list) == 0, true)
	check(t, show("both know programs", r), r.areRead, r.isProgram)
}

// TestHintLanguageTotal is promise 1 for chapter 19: all functions return for all arguments, twice alike, in new memory, and keep their arguments.
func TestHintLanguageTotal(t *testing.T) {
	t.Parallel()
	random := fixedRandom()
	numbers, texts := append(extremeNumbers(), someOperands()...), append(oddTexts(), "pop\n", "pop", "end")
	for range 4000 {
		list := roomySlice(randomHints(random, random.Intn(8), 7), hint{Code: 77, Operand: 77})
		if random.Intn(3) == 0 && len(list) > 0 {
			list[random.Intn(len(list))] = hint{Code: pick(random, numbers), Operand: pick(random, numbers)}
		}
		number, text := pick(random, numbers), pick(random, texts)
		if random.Intn(2) == 0 {
			number, text = random.Int63n(int64(len(list)+2))-1, pick(random, []string{wantedLines(randomHints(random, 5, 2)), string(wantedBytes(randomHints(random, 1, 0)[0]))})
		}
		before := show(list[:cap(list)])
		first := hintResultsOf(list, number, text)
		first.checkZero(t)
		shown := show(first)
		check(t, "arguments after all calls", show(list[:cap(list)]), before)
		overwrite(first.list, hint{Code: 55, Operand: 55})
		check(t, "arguments after results are overwritten", show(list[:cap(list)]), before)
		if shown != show(hintResultsOf(list, number, text)) {
			t.Fatal("equal arguments have different results: ", list, number, text)
		}
	}
}
