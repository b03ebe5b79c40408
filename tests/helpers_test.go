package tests

import (
	"math"
	"math/rand"
	"testing"
)

// check reports a result that is not the wanted one.
func check[T comparable](t *testing.T, what string, got, want T) {
	t.Helper()
	if got != want {
		t.Errorf("%s: got %#v, want %#v", what, got, want)
	}
}

// fixedRandom gives every run the same numbers, so that a failure can be repeated.
func fixedRandom() *rand.Rand { return rand.New(rand.NewSource(1)) }

// extremeNumbers are the numbers at which an int64 or a limit of the first chapters ends.
func extremeNumbers() []int64 {
	list := []int64{math.MinInt64, math.MinInt64 + 1, math.MaxInt64, math.MaxInt64 - 1}
	for _, n := range []int64{0, 1, 2, 3, 4, 5, 6, 255, 256, 65535, 65536, 999999, 1000000, 1000001,
		1000000000, 1000000001, 1073741824, 1073741825, 1 << 31, 1 << 32, 999999999999999999, 1000000000000000000} {
		list = append(list, n, -n)
	}
	return list
}

// oddTexts are texts that no function of the first chapters writes, and a few that some do.
func oddTexts() []string {
	long := make([]byte, 100000)
	for i := range long {
		long[i] = '9'
	}
	return []string{"", " ", "  ", "\x00", "\t1", "1\n", "-", "+", "--1", "+1", "-0", "00", "01", "-01", "1_0", "0x1",
		"1e3", "1.0", "/", "1/", "/1", "1//2", "1/2/3", "-/2", "1/-2", "1/+2", "1/02", "1 /2", "2/4", "2/1", "0/1",
		"0/2", "1/0", "-0/3", "\xff\xfe", "\xe4 a", "a b", " a\u00a0b\tc ", "\u0661", "\uff11", "1/2", "-3/4", "7", string(long)}
}
