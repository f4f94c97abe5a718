package tests

import (
	"math"
	"slices"
	"strings"
	"testing"

	"loop.example/g01170/impl"
)

func TestChapter1NumbersText(t *testing.T) {
	for _, c := range []struct {
		list []float32
		want string
	}{
		{nil, "none"},
		{[]float32{}, "none"},
		{[]float32{1}, "3f800000"},
		{[]float32{1, -2}, "3f800000,c0000000"},
		{[]float32{0, minus0, tiny, -tiny}, "00000000,80000000,00000001,80000001"},
		{[]float32{infinity, -infinity, largest}, "7f800000,ff800000,7f7fffff"},
		{[]float32{rawNumber(0x7f800001), rawNumber(0xffffffff)}, "7fc00000,7fc00000"},
		{[]float32{rawNumber(0x00abcdef)}, "00abcdef"},
		{repeated(1, 256), strings.Repeat("3f800000,", 255) + "3f800000"},
	} {
		text, ok := impl.NumbersText(c.list)
		if text != c.want || !ok {
			t.Errorf("NumbersText(%v) = %q %v, want %q", c.list, text, ok, c.want)
		}
		list, ok := impl.ReadNumbers(c.want)
		wantSamples(t, "ReadNumbers "+c.want, list, ok, c.list)
	}
	text, ok := impl.NumbersText(repeated(1, 257))
	wantZero(t, "NumbersText of too many", text, ok)
}

func TestChapter1ReadNumbersRefusesOtherTexts(t *testing.T) {
	for _, s := range []string{
		"", " ", ",", "None", "none ", " none", "none,", ",none", "none,none", "none,3f800000", "nonesuch",
		"3F800000", "3f80000", "03f800000", "3f8000000", "3f80000g", "3f800000,", ",3f800000",
		"3f800000,,3f800000", "3f800000, 3f800000", "3f800000;3f800000", " 3f800000", "3f800000\n", "3f800000\x00",
		"+3f80000", "-3f80000", "0x3f8000", "3f_80000", "1", "0", "1.0",
		"7f800001", "7fffffff", "7fc00001", "ffc00000", "ff800001", "ffffffff", "3f800000,7fc00001",
		strings.Repeat("3f800000,", 256) + "3f800000", strings.Repeat("3f800000,", 256), strings.Repeat(",", 300),
		strings.Repeat("3f800000", 4000), "3f80000\xff", "３f800000",
	} {
		list, ok := impl.ReadNumbers(s)
		wantNoList(t, "ReadNumbers "+s, list, ok)
	}
}

func TestChapter1NumbersAreReadAsTheyWereWritten(t *testing.T) {
	for seed := range 40 {
		var list []float32
		for i := range seed * 6 {
			list = append(list, rawNumber(mixedBits(seed, i)))
		}
		text, _ := impl.NumbersText(list)
		back, ok := impl.ReadNumbers(text)
		wantSamples(t, "read again", back, ok, list)
	}
}

func TestChapter1IsName(t *testing.T) {
	for _, s := range []string{"a", "z", "bus", "abcdefgh", "zzzzzzzz"} {
		if !impl.IsName(s) {
			t.Errorf("%q is no name", s)
		}
	}
	for _, s := range []string{
		"", "abcdefghi", "A", "aB", "Za", "a ", " a", "a1", "1", "a-b", "a`", "a{", "a\n", "a\x00", "\xff", "a\xe1", "é", "aé", "ａ",
		strings.Repeat("a", 1000),
	} {
		if impl.IsName(s) {
			t.Errorf("%q is a name", s)
		}
	}
}

func TestChapter1Decimal(t *testing.T) {
	for _, c := range []struct {
		n    int64
		want string
	}{
		{0, "0"}, {7, "7"}, {-4, "-4"}, {10, "10"}, {-100, "-100"}, {65003, "65003"},
		{impl.MaxValue, "1000000000000000"}, {-impl.MaxValue, "-1000000000000000"},
		{impl.MaxValue + 1, "1000000000000001"},
		{math.MaxInt64, "9223372036854775807"}, {math.MinInt64, "-9223372036854775808"},
	} {
		if got := impl.Decimal(c.n); got != c.want {
			t.Errorf("Decimal(%d) = %q", c.n, got)
		}
		n, ok := impl.ReadDecimal(c.want)
		if c.n > impl.MaxValue || c.n < -impl.MaxValue {
			wantZero(t, "ReadDecimal "+c.want, n, ok)
		} else if n != c.n || !ok {
			t.Errorf("ReadDecimal(%q) = %d %v", c.want, n, ok)
		}
	}
}

func TestChapter1ReadDecimalRefusesOtherTexts(t *testing.T) {
	for _, s := range []string{
		"", "-", "+", "+1", "-0", "00", "01", "-01", "--1", "1-", " 1", "1 ", "1\n", "1_000", "1,000", "0x10", "1e3", "1.0", "a", "none",
		"1000000000000001", "-1000000000000001", "9223372036854775808", "-9223372036854775809",
		"18446744073709551616", "18446744073709551617", strings.Repeat("9", 5000), "1\x00", "\xff", "１",
	} {
		n, ok := impl.ReadDecimal(s)
		wantZero(t, "ReadDecimal "+s, n, ok)
	}
}

func TestChapter1ListText(t *testing.T) {
	most := slices.Repeat([]int64{7}, impl.MaxItems)
	for _, c := range []struct {
		list []int64
		want string
	}{
		{nil, "none"},
		{[]int64{}, "none"},
		{[]int64{0}, "0"},
		{[]int64{3, -2, 1, 1}, "3,-2,1,1"},
		{[]int64{impl.MaxValue, -impl.MaxValue}, "1000000000000000,-1000000000000000"},
		{most, strings.Repeat("7,", 63) + "7"},
	} {
		text, ok := impl.ListText(c.list)
		if text != c.want || !ok {
			t.Errorf("ListText(%v) = %q %v", c.list, text, ok)
		}
		list, ok := impl.ReadList(c.want)
		if !ok || !slices.Equal(list, c.list) {
			t.Errorf("ReadList(%q) = %v %v", c.want, list, ok)
		}
	}
}

func TestChapter1ListTextRefusesOtherLists(t *testing.T) {
	for _, list := range [][]int64{
		slices.Repeat([]int64{7}, impl.MaxItems+1), {impl.MaxValue + 1}, {0, -impl.MaxValue - 1}, {math.MaxInt64}, {1, math.MinInt64},
	} {
		text, ok := impl.ListText(list)
		wantZero(t, "ListText", text, ok)
	}
	for _, s := range []string{
		"", " ", ",", "1,", ",1", "1,,2", "1, 2", "1;2", "None", "none,1", "1,none", "none,", "01", "1,-0", "+1", "1,02", "1\n",
		"1000000000000001", "0,-1000000000000001", strings.Repeat("7,", 64) + "7", strings.Repeat(",", 100),
	} {
		list, ok := impl.ReadList(s)
		wantNoList(t, "ReadList "+s, list, ok)
	}
}

func TestChapter1CheckOf(t *testing.T) {
	for _, c := range []struct {
		start int64
		s     string
		want  int64
	}{
		{0, "", 0},
		{65002, "", 65002},
		{0, "a", 118},
		{0, "\x00", 21},
		{0, "\xff", 276},
		{1, "a", 695},
		{65002, "\x00", 65003 - 577 + 21},
		{0, "ab", (577*118 + 98 + 21) % 65003},
		{118, "b", (577*118 + 98 + 21) % 65003},
		{5, "é", (577*(577*5+0xc3+21) + 0xa9 + 21) % 65003},
	} {
		if got, ok := impl.CheckOf(c.start, c.s); got != c.want || !ok {
			t.Errorf("CheckOf(%d, %q) = %d %v, want %d", c.start, c.s, got, ok, c.want)
		}
	}
	for _, start := range []int64{-1, impl.CheckSize, impl.CheckSize + 1, math.MinInt64, math.MaxInt64} {
		got, ok := impl.CheckOf(start, "a")
		wantZero(t, "CheckOf with a wrong start", got, ok)
	}
}

func TestChapter1CheckOfGoesOn(t *testing.T) {
	text := "any bytes \x00\xff\n, of a text that is cut"
	whole, _ := impl.CheckOf(9, text)
	for i := range len(text) + 1 {
		first, _ := impl.CheckOf(9, text[:i])
		if got, ok := impl.CheckOf(first, text[i:]); got != whole || !ok {
			t.Errorf("cut at %d: %d %v, want %d", i, got, ok, whole)
		}
	}
}
