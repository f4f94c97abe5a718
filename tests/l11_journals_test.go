package tests

import (
	"fmt"
	"math"
	"slices"
	"strings"
	"testing"

	"loop.example/g01170/impl"
)

// plainJournal does what the document tells of journals, apart from the program.
func plainJournal(lines ...string) string {
	journal, check := "", 0
	for _, line := range lines {
		for _, b := range []byte(line) {
			check = (577*check + int(b) + 21) % 65003
		}
		journal += fmt.Sprintf("%d %s\n", check, line)
	}
	return journal
}

func wantJournal(t *testing.T, want string, lines ...string) {
	t.Helper()
	journal, ok := impl.JournalOf(lines)
	if !ok || journal != want {
		t.Errorf("%.200q: got %.200q %v, want %.200q", lines, journal, ok, want)
	}
}

func wantNoJournal(t *testing.T, lines ...string) {
	t.Helper()
	journal, ok := impl.JournalOf(lines)
	wantZero(t, fmt.Sprintf("%.200q", lines), journal, ok)
}

func wantRecovered(t *testing.T, text string, length int64, lines ...string) {
	t.Helper()
	got, end, ok := impl.RecoverJournal(text)
	if !ok || end != length || !slices.Equal(got, lines) {
		t.Errorf("%.200q: got %.200q %d %v, want %.200q %d", text, got, end, ok, lines, length)
	}
}

func wantNotRecovered(t *testing.T, text string) {
	t.Helper()
	lines, length, ok := impl.RecoverJournal(text)
	wantNoList(t, "no journal", lines, ok)
	wantZero(t, "no journal", length, ok)
}

func TestChapter11JournalsByHand(t *testing.T) {
	wantJournal(t, "")
	wantJournal(t, "118 a\n", "a")
	wantJournal(t, "0 \n", "")
	wantJournal(t, "118 a\n118 \n", "a", "")
	// 577 times 118, and then 98 and 21, are 68205, of which 65003 is taken away.
	wantJournal(t, "118 a\n3202 b\n", "a", "b")
	wantJournal(t, "118 a\n3202 b\n27588 a\n", "a", "b", "a")
	wantJournal(t, "0 \n0 \n53  \n53 \n", "", "", " ", "")
	wantJournal(t, "21 \x00\n12393 \xff\n", "\x00", "\xff")
	wantJournal(t, "42751 5 \n", "5 ")
	wantJournal(t, "34 \r\n", "\r")
}

func TestChapter11JournalsOfAnyLines(t *testing.T) {
	for _, lines := range [][]string{
		{"clip 0 1 3f800000", "pan 0 00000000", "bounce 2", "length"}, {"", "", ""}, {" ", "  ", " a ", "a  b"}, {"\xff\xfe", "\x00", "\x00\x00", "\xc3", "é", "\u2028"},
		{"118 a", "118 ", "0", "-1", "1 2 3"}, {"\t", "\r", "\v", "\f", "\x85", "\xa0"}, {strings.Repeat("x", 7000)}, slices.Repeat([]string{"track"}, 300),
	} {
		want := plainJournal(lines...)
		wantJournal(t, want, lines...)
		wantRecovered(t, want, int64(len(want)), lines...)
	}
}

func TestChapter11NoJournals(t *testing.T) {
	for _, line := range []string{"\n", "a\n", "\na", "a\nb", "\n\n", "\r\n", "118 a\n"} {
		wantNoJournal(t, line)
		wantNoJournal(t, "a", line)
		wantNoJournal(t, line, "a")
		wantNoJournal(t, "a", "", line, "b")
	}
	wantNoJournal(t, strings.Repeat("x", 1000000))
	wantNoJournal(t, make([]string, 1000000)...)
	wantNoJournal(t, slices.Repeat([]string{"\n"}, 1000000)...)
}

// ofLength is a last line with which a journal has so many bytes.
func ofLength(t *testing.T, bytes int, before ...string) string {
	t.Helper()
	rest := bytes - len(plainJournal(before...))
	for length := rest - 8; length < rest; length++ {
		for _, letter := range "abcdefgh" {
			line := strings.Repeat(string(letter), length)
			if len(plainJournal(append(before, line)...)) == bytes {
				return line
			}
		}
	}
	t.Fatalf("no line makes %d bytes", bytes)
	return ""
}

func TestChapter11LongestJournals(t *testing.T) {
	for _, bytes := range []int{7998, 7999, 8000} {
		line := ofLength(t, bytes)
		wantJournal(t, plainJournal(line), line)
		wantRecovered(t, plainJournal(line), int64(bytes), line)
	}
	for _, bytes := range []int{8001, 8002, 9000} {
		wantNoJournal(t, ofLength(t, bytes))
		wantNotRecovered(t, plainJournal(ofLength(t, bytes)))
	}
	zeros := strings.Repeat("0 \n", 2666)
	lines := make([]string, 2666)
	wantJournal(t, zeros, lines...)
	wantNoJournal(t, make([]string, 2667)...)
	wantRecovered(t, zeros, 7998, lines...)
	wantRecovered(t, zeros+"0 ", 7998, lines...)
	wantNotRecovered(t, zeros+"0 \n")
	wantNotRecovered(t, zeros+"xxx")
	wantRecovered(t, strings.Repeat("x", 8000), 0)
	wantNotRecovered(t, strings.Repeat("x", 8001))
	wantRecovered(t, strings.Repeat("\n", 8000), 0)
	wantNotRecovered(t, strings.Repeat("\n", 1000000))
	first := strings.Repeat("a", 5000)
	for _, bytes := range []int{7999, 8000} {
		second := ofLength(t, bytes, first)
		wantJournal(t, plainJournal(first, second), first, second)
		wantRecovered(t, plainJournal(first, second), int64(bytes), first, second)
	}
	second := ofLength(t, 8001, first)
	wantNoJournal(t, first, second)
	wantNotRecovered(t, plainJournal(first, second))
	wantRecovered(t, plainJournal(first, second)[:8000], int64(len(plainJournal(first))), first)
}

func TestChapter11RecoveredByHand(t *testing.T) {
	wantRecovered(t, "", 0)
	wantRecovered(t, "118 a\n", 6, "a")
	wantRecovered(t, "118 a\n118 \nxx", 11, "a", "")
	wantRecovered(t, "118 a\n3202 b\n27588 a\n", 21, "a", "b", "a")
	wantRecovered(t, "118 a\n3202 b\n27588 a", 13, "a", "b")
	wantRecovered(t, "118 a\n3202 b\n27587 a\n", 13, "a", "b")
	wantRecovered(t, "118 a\n3202 b\n118 a\n", 13, "a", "b")
	wantRecovered(t, "118 a\n119 b\n", 6, "a")
	wantRecovered(t, "118 a\n\n3202 b\n", 6, "a")
	wantRecovered(t, "118 a\n118 a\n", 6, "a")
	wantRecovered(t, "3202 b\n118 a\n", 0)
	wantRecovered(t, "0 \n0 \n53  \n53 \n", 15, "", "", " ", "")
	wantRecovered(t, "42751 5 \n", 9, "5 ")
	wantRecovered(t, "42751 5  \n", 0)
	wantRecovered(t, "118 \na\n", 0)
	wantRecovered(t, "118 a\n118 \na\n", 11, "a", "")
}

func TestChapter11NothingIsRecovered(t *testing.T) {
	for _, text := range []string{
		"117 a\n", "0118 a\n", "+118 a\n", "-118 a\n", " 118 a\n", "118  a\n", "118a\n", "118\ta\n", "118 a", "118 a\r\n", "118 A\n", "65121 a\n", "118.0 a\n", "0x76 a\n",
		"a\n", "a", "\n", " \n", " ", " a\n", "0\n", "0", "00 \n", "-0 \n", "+0 \n", "65003 \n", "none", "\x00", "\xff\n", "1_18 a\n", "118,a\n", "118 118 a\n",
		strings.Repeat("0", 7000) + " \n", strings.Repeat("9", 7000) + " a\n", "18446744073709551734 a\n", "9223372036854775807 a\n", "xx118 a\n",
	} {
		wantRecovered(t, text, 0)
		wantRecovered(t, "118 a\n"+text, 6, "a")
		wantRecovered(t, "53  \n53 \n"+text, 9, " ", "")
	}
}

// linesOfDigits have check numbers with each number of digits, as the least and the greatest one, too.
func linesOfDigits() []string {
	var lines []string
	for _, want := range []int{0, 9, 10, 99, 100, 999, 1000, 9999, 10000, 65001, 65002} {
		for i := range 1 << 22 {
			if line := fmt.Sprintf("%x", i); i == 0 && want == 0 || plainCheck(line) == want {
				lines = append(lines, line[:len(line)*min(want, 1)])
				break
			}
		}
	}
	return lines
}

func TestChapter11CheckNumbersOfEachLength(t *testing.T) {
	lines := linesOfDigits()
	if len(lines) != 11 {
		t.Fatalf("only %q", lines)
	}
	for _, line := range lines {
		check := plainCheck(line)
		journal := fmt.Sprintf("%d %s\n", check, line)
		wantJournal(t, journal, line)
		wantRecovered(t, journal, int64(len(journal)), line)
		for _, other := range []int{check - 1, check + 1, check + 65003, check - 65003, check * 10, check / 10, -check - 1, check + math.MaxUint32 + 1} {
			if other != check {
				wantRecovered(t, fmt.Sprintf("%d %s\n", other, line), 0)
			}
		}
		for _, wrong := range []string{"0", "00000", "+", "-", " ", "\x00"} {
			wantRecovered(t, wrong+journal, 0)
		}
	}
	journal := plainJournal(lines...)
	wantJournal(t, journal, lines...)
	wantRecovered(t, journal, int64(len(journal)), lines...)
}
