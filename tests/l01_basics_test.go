package tests

import (
	"fmt"
	"math"
	"math/big"
	"slices"
	"strings"
	"testing"

	"loop.example/g00883/impl"
)

func TestCodeNames(t *testing.T) {
	names := []string{"ok", "invalid", "range", "not-found", "exists", "full", "state", "syntax", "loop", "format", "checksum", "truncated"}
	codes := []int64{impl.OK, impl.ErrInvalid, impl.ErrRange, impl.ErrNotFound, impl.ErrExists, impl.ErrFull, impl.ErrState,
		impl.ErrSyntax, impl.ErrLoop, impl.ErrFormat, impl.ErrChecksum, impl.ErrTruncated}
	for i, name := range names {
		check(t, "value of "+name, codes[i], int64(i))
		check(t, "CodeName", impl.CodeName(codes[i]), name)
	}
	for _, code := range []int64{-1, 12, 13, 256, 1 << 32, math.MinInt64, math.MaxInt64} {
		check(t, fmt.Sprintf("CodeName(%d)", code), impl.CodeName(code), "")
	}
}

func TestIsName(t *testing.T) {
	check(t, "MaxName", impl.MaxName, 12)
	for _, s := range []string{"a", "z", "a0", "z9", "a.", "stem.left", "a..b", "a.0", "abcdefghijkl", "a12345678901"} {
		check(t, "IsName "+s, impl.IsName(s), true)
	}
	for _, s := range []string{"", ".a", "0a", "9", "A", "aB", "a-b", "a_b", "a b", "a ", " a", "a\x00", "a\n", "ä", "aä", "a\xff",
		"`", "a`", "{", "a{", "a/", "a:", "abcdefghijklm", strings.Repeat("a", 1000)} {
		check(t, fmt.Sprintf("IsName %.20q", s), impl.IsName(s), false)
	}
}

// TestIsNameBytes holds every byte, as the first one and as a later one, against the definition of a name.
func TestIsNameBytes(t *testing.T) {
	first, later := "abcdefghijklmnopqrstuvwxyz", "abcdefghijklmnopqrstuvwxyz0123456789."
	for b := range 256 {
		c := string([]byte{byte(b)})
		check(t, fmt.Sprintf("first byte %d", b), impl.IsName(c), b < 128 && strings.Contains(first, c))
		check(t, fmt.Sprintf("last byte %d", b), impl.IsName("a"+c), b < 128 && strings.Contains(later, c))
		check(t, fmt.Sprintf("inner byte %d", b), impl.IsName("a"+c+"a"), b < 128 && strings.Contains(later, c))
	}
}

func TestDecimal(t *testing.T) {
	for n, want := range map[int64]string{0: "0", 7: "7", -5: "-5", 10: "10", -100: "-100",
		math.MaxInt64: "9223372036854775807", math.MinInt64: "-9223372036854775808"} {
		check(t, "Decimal", impl.Decimal(n), want)
	}
	for _, n := range extremeNumbers() {
		check(t, "Decimal", impl.Decimal(n), big.NewInt(n).String())
	}
}

func TestReadDecimal(t *testing.T) {
	for _, n := range []int64{0, 1, -1, 9, 10, -10, 100, 123456789, 999999999999999999, -999999999999999999, 100000000000000000} {
		got, ok := impl.ReadDecimal(impl.Decimal(n))
		check(t, "number", got, n)
		check(t, "read", ok, true)
	}
	for _, s := range []string{"", "-", "+", "-0", "+0", "+1", "00", "01", "-01", "000000000000000000", " 1", "1 ", "1\n", "1_000", "0x10", "1e3",
		"1.0", "--1", "1-", "a", "0b1", "١", "１", "\x001", "1\x00", "1000000000000000000", "-1000000000000000000", "0999999999999999999",
		"9223372036854775807", "-9223372036854775808", "9223372036854775808", "18446744073709551617", strings.Repeat("9", 100000)} {
		got, ok := impl.ReadDecimal(s)
		check(t, fmt.Sprintf("number of %.30q", s), got, 0)
		check(t, fmt.Sprintf("read %.30q", s), ok, false)
	}
}

func TestSplitWords(t *testing.T) {
	cases := []struct {
		text string
		want []string
	}{
		{"", nil}, {" ", nil}, {"    ", nil}, {"a", []string{"a"}}, {" a b", []string{"a", "b"}}, {"a  bc   d ", []string{"a", "bc", "d"}},
		{"a\tb\nc\u00a0d\u2003e\x00f", []string{"a\tb\nc\u00a0d\u2003e\x00f"}}, {"\xe4 \xff\xfe  \xc3", []string{"\xe4", "\xff\xfe", "\xc3"}},
		{"ä ö", []string{"ä", "ö"}},
	}
	for _, c := range cases {
		if got := impl.SplitWords(c.text); !slices.Equal(got, c.want) {
			t.Errorf("SplitWords(%q): got %q, want %q", c.text, got, c.want)
		}
	}
}

// TestSplitWordsRandom compares with a definition by the blanks around each word.
func TestSplitWordsRandom(t *testing.T) {
	random := fixedRandom()
	for range 2000 {
		text := make([]byte, random.Intn(12))
		for i := range text {
			text[i] = " a\t\xc3\xa4 "[random.Intn(6)]
		}
		var want []string
		for _, part := range strings.Split(string(text), " ") {
			if part != "" {
				want = append(want, part)
			}
		}
		if got := impl.SplitWords(string(text)); !slices.Equal(got, want) {
			t.Fatalf("SplitWords(%q): got %q, want %q", text, got, want)
		}
	}
}

// TestSplitWordsNewMemory checks that a caller who changes or extends a result does not change another one.
func TestSplitWordsNewMemory(t *testing.T) {
	first := impl.SplitWords("a b c")
	first[0] = "changed"
	_ = append(first[:1], "changed")
	if again := impl.SplitWords("a b c"); !slices.Equal(again, []string{"a", "b", "c"}) {
		t.Errorf("SplitWords depends on an earlier result: %q", again)
	}
}

func TestPutWord(t *testing.T) {
	cases := []struct {
		n, bytes int64
		want     string
	}{
		{0, 1, "\x00"}, {255, 1, "\xff"}, {-1, 1, "\xff"}, {-128, 1, "\x80"}, {128, 1, "\x80"}, {-2, 2, "\xff\xfe"}, {258, 2, "\x01\x02"},
		{65535, 2, "\xff\xff"}, {-32768, 2, "\x80\x00"}, {66051, 3, "\x01\x02\x03"}, {16777215, 3, "\xff\xff\xff"}, {-8388608, 3, "\x80\x00\x00"},
		{16909060, 4, "\x01\x02\x03\x04"}, {4294967295, 4, "\xff\xff\xff\xff"}, {-2147483648, 4, "\x80\x00\x00\x00"}, {5, 4, "\x00\x00\x00\x05"},
		{256, 1, ""}, {-129, 1, ""}, {65536, 2, ""}, {-32769, 2, ""}, {16777216, 3, ""}, {-8388609, 3, ""}, {4294967296, 4, ""}, {-2147483649, 4, ""},
		{0, 0, ""}, {0, 5, ""}, {0, 8, ""}, {0, -1, ""}, {0, 64, ""}, {0, math.MinInt64, ""}, {0, math.MaxInt64, ""},
		{math.MinInt64, 4, ""}, {math.MaxInt64, 4, ""},
	}
	for _, c := range cases {
		check(t, fmt.Sprintf("PutWord(%d, %d)", c.n, c.bytes), impl.PutWord(c.n, c.bytes), c.want)
	}
}

func TestGetWord(t *testing.T) {
	s := "\x01\x02\xff\x80\x05"
	cases := []struct {
		at, bytes, want int64
		ok              bool
	}{
		{0, 1, 1, true}, {2, 1, 255, true}, {0, 2, 258, true}, {2, 2, 65408, true}, {0, 3, 66303, true}, {2, 3, 16744453, true},
		{0, 4, 16973696, true}, {1, 4, 50298885, true}, {4, 1, 5, true}, {3, 2, 32773, true},
		{5, 1, 0, false}, {4, 2, 0, false}, {3, 3, 0, false}, {2, 4, 0, false}, {-1, 1, 0, false}, {-1, 2, 0, false}, {-4, 4, 0, false},
		{0, 0, 0, false}, {0, 5, 0, false}, {0, -1, 0, false}, {5, 0, 0, false}, {0, math.MaxInt64, 0, false}, {0, math.MinInt64, 0, false},
		{math.MaxInt64, 1, 0, false}, {math.MaxInt64, 4, 0, false}, {math.MaxInt64 - 3, 4, 0, false}, {math.MinInt64, 1, 0, false}, {1 << 32, 1, 0, false},
	}
	for _, c := range cases {
		n, ok := impl.GetWord(s, c.at, c.bytes)
		check(t, fmt.Sprintf("number at %d, %d bytes", c.at, c.bytes), n, c.want)
		check(t, fmt.Sprintf("at %d, %d bytes", c.at, c.bytes), ok, c.ok)
	}
	_, ok := impl.GetWord("", 0, 1)
	check(t, "word of an empty string", ok, false)
}

// wordsOf returns numbers around the limits of a word of some bytes, and others inside and outside of them.
func wordsOf(bytes int64) []int64 {
	limit := int64(1) << (8 * bytes)
	list := []int64{0, 1, -1, limit - 1, limit, limit + 1, limit / 2, limit/2 - 1, -limit / 2, -limit/2 - 1, -limit, 1 << 40, -1 << 40}
	random := fixedRandom()
	for range 500 {
		list = append(list, random.Int63n(2*limit)-limit/2)
	}
	return list
}

// TestWordsRestored is the first half of promise 2.
func TestWordsRestored(t *testing.T) {
	for bytes := int64(1); bytes <= 4; bytes++ {
		limit := int64(1) << (8 * bytes)
		for _, n := range wordsOf(bytes) {
			word := impl.PutWord(n, bytes)
			if n < -limit/2 || n >= limit {
				check(t, fmt.Sprintf("PutWord(%d, %d)", n, bytes), word, "")
				continue
			}
			check(t, fmt.Sprintf("length of PutWord(%d, %d)", n, bytes), int64(len(word)), bytes)
			want := n
			if n < 0 {
				want = n + limit
			}
			got, ok := impl.GetWord("xyz"+word+"z", 3, bytes)
			check(t, fmt.Sprintf("%d in %d bytes is there", n, bytes), ok, true)
			check(t, fmt.Sprintf("%d in %d bytes", n, bytes), got, want)
		}
	}
}

func TestSum32(t *testing.T) {
	for s, want := range map[string]int64{
		"": 0, "\x00\x00\x00\x01\x02": 33554433, "\x01": 1 << 24, "\x00\x01": 1 << 16, "\x00\x00\x01": 1 << 8, "\x00\x00\x00\x01": 1,
		"\xff\xff\xff\xff": 4294967295, "\xff\xff\xff\xff\x00\x00\x00\x01": 0, "\xff\xff\xff\xff\xff\xff\xff\xff": 4294967294,
		"\x00\x00\x00\x00\x00": 0, "\x80\x00\x00\x00\x80": 0, "\x01\x02\x03\x04\x05\x06\x07": 0x01020304 + 0x05060700,
	} {
		check(t, fmt.Sprintf("Sum32(%q)", s), impl.Sum32(s), want)
	}
}

// TestSumsAddUp is the second half of promise 2: whole words may be summed in parts, and zeros at the end count nothing.
func TestSumsAddUp(t *testing.T) {
	random := fixedRandom()
	for range 2000 {
		text := make([]byte, random.Intn(40))
		random.Read(text)
		s := string(text)
		want := int64(0)
		padded := s + strings.Repeat("\x00", (4-len(s)%4)%4)
		for at := 0; at < len(padded); at += 4 {
			n, ok := impl.GetWord(padded, int64(at), 4)
			check(t, "word", ok, true)
			check(t, "Sum32 of one word", impl.Sum32(padded[at:at+4]), n)
			want = (want + n) % (1 << 32)
		}
		check(t, fmt.Sprintf("Sum32(%q)", s), impl.Sum32(s), want)
		check(t, "Sum32 with zeros", impl.Sum32(padded+"\x00\x00\x00\x00"), want)
		cut := 4 * random.Intn(len(s)/4+1)
		check(t, "sum of both parts", (impl.Sum32(s[:cut])+impl.Sum32(s[cut:]))%(1<<32), want)
	}
	check(t, "long sum", impl.Sum32(strings.Repeat("\xff", 400000)), int64(1<<32-100000))
}

// TestBasicsTotal is promise 1 for chapter 1: all functions return for all arguments, twice alike.
func TestBasicsTotal(t *testing.T) {
	results := func() []any {
		var list []any
		for _, n := range extremeNumbers() {
			list = append(list, impl.CodeName(n), impl.Decimal(n))
			for _, m := range extremeNumbers() {
				word, ok := impl.GetWord("abcdef", n, m)
				list = append(list, impl.PutWord(n, m), word, ok)
			}
		}
		for _, s := range oddTexts() {
			n, ok := impl.ReadDecimal(s)
			list = append(list, n, ok, impl.IsName(s), impl.Sum32(s), fmt.Sprint(impl.SplitWords(s)))
		}
		return list
	}
	if first, second := results(), results(); !slices.Equal(first, second) {
		t.Error("equal arguments have different results")
	}
}
