package tests

import (
	"slices"
	"strings"
	"testing"

	"loop.example/g01170/impl"
)

// formsSession has what the lines of rightLines need.
func formsSession() impl.Session {
	s := sessionWith(2, clipOf(0, 1, 1, 2, 3), clipOf(1, 0, 4, 5))
	s.Strips[1].Effects = chainOf(gainBy(1), bend())
	return s
}

// wordKind is what a word of a form must be.
type wordKind string

const (
	aTrack   wordKind = "T"
	aClip    wordKind = "C"
	aNumber  wordKind = "N"
	someText wordKind = "NUMBERS"
	hexText  wordKind = "HEX"
	aChain   wordKind = "CHAIN"
	aWave    wordKind = "KIND"
)

// rightLine is a line that is carried out at formsSession, with what its words are.
type rightLine struct {
	line  string
	words []wordKind
}

func rightLines() []rightLine {
	return []rightLine{
		{"track", nil}, {"clip 1 2 3f800000,40000000", []wordKind{aTrack, aNumber, someText}}, {"clip 0 256 none", []wordKind{aTrack, aNumber, someText}},
		{"tone 0 3 saw 60", []wordKind{aTrack, aNumber, aWave, aNumber}}, {"chain 1 0.0.3f000000;5.0.none", []wordKind{aTrack, aChain}},
		{"chain 0 none", []wordKind{aTrack, aChain}}, {"gain 0 -35", []wordKind{aTrack, aNumber}}, {"pan 1 3e800000", []wordKind{aTrack, hexText}},
		{"mute 0", []wordKind{aTrack}}, {"solo 1", []wordKind{aTrack}}, {"split 0 1", []wordKind{aClip, aNumber}}, {"repeat 1 2", []wordKind{aClip, aNumber}},
		{"freeze 1 4", []wordKind{aTrack, aNumber}}, {"compile", nil}, {"show 1 3", []wordKind{aTrack, aNumber}}, {"bounce 2", []wordKind{aNumber}},
		{"peak 2", []wordKind{aNumber}}, {"length", nil}, {"cost", nil},
	}
}

// wrongWords are those that are not what a word must be, whatever the line is.
func wrongWords(kind wordKind) []string {
	list := []string{"", "x", "+1", "-0", "00", "01", "1.0", "1e0", "0x1", "1_0", "\xff", "1\x00", "1\t", "\n", "1\r", "ok", "none,", strings.Repeat("9", 5000)}
	numbers := []string{"none", "-1000000000000001", "1000000000000001", "1000000000000000", "9223372036854775807", "9223372036854775808", "-9223372036854775808", "18446744073709551616", "99999999999999999999"}
	switch kind {
	case aTrack, aClip:
		return slices.Concat(list, numbers, []string{"-1", "2", "3", "8", "12", "4294967296", "4294967297"})
	case aNumber:
		return slices.Concat(list, numbers, []string{"-2001", "2001"})
	case someText:
		return slices.Concat(list, numbers[1:], []string{"3F800000", "3f80000", "3f8000000", "7fc00001", "ffc00000", "3f800000,", ",3f800000", "3f800000,,3f800000", "None", strings.Repeat("3f800000,", 256) + "3f800000"})
	case hexText:
		return slices.Concat(list, numbers, []string{"3f000000,3f000000", "7fc00000", "3F000000", "3f00000", "3f0000000", "3f800001", "80000001", "bf800000", "7f800000"})
	case aChain:
		return slices.Concat(list, numbers[1:], []string{"0.0.3f000000;", ";", "7.0.none", "5.1.none", "5.0.", "5.0", "05.0.none", "None", strings.Repeat("5.0.none;", 8) + "5.0.none", "6.0.7f800000,00000000"})
	}
	return slices.Concat(list, numbers, []string{"Saw", "SAW", "saws", "sa", "saw,", "horn", "0", "1"})
}

func TestChapter11RightLines(t *testing.T) {
	for _, right := range rightLines() {
		if _, output, ok := impl.ConsoleCommand(formsSession(), right.line); !ok || output == "no" || output == "what" {
			t.Errorf("%q: %q %v", right.line, output, ok)
		}
	}
}

func TestChapter11EachWordWrong(t *testing.T) {
	for _, right := range rightLines() {
		for i, kind := range right.words {
			for _, wrong := range wrongWords(kind) {
				words := strings.Split(right.line, " ")
				words[i+1] = wrong
				wantSaid(t, formsSession(), "no", strings.Join(words, " "))
			}
		}
	}
}

func TestChapter11WordsTooFewOrTooMany(t *testing.T) {
	for _, right := range rightLines() {
		words := strings.Split(right.line, " ")
		for i := range words {
			fewer := slices.Delete(slices.Clone(words), i, i+1)
			wantSaid(t, formsSession(), "what", strings.Join(fewer, " "))
			for _, more := range []string{"", "0", "1", "x", words[i]} {
				wantSaid(t, formsSession(), "what", strings.Join(slices.Insert(slices.Clone(words), i+1, more), " "))
			}
		}
		wantSaid(t, formsSession(), "what", " "+right.line, right.line+" ", "  "+right.line, right.line+"  ", right.line+" "+right.line, right.line+strings.Repeat(" 0", 1000))
		wantSaid(t, formsSession(), "what", strings.Replace(right.line+" ", " ", "  ", 1), "x "+right.line, right.line[1:])
	}
}

func TestChapter11FirstWordsThatAreNone(t *testing.T) {
	for _, right := range rightLines() {
		words := strings.Split(right.line, " ")
		name := words[0]
		for _, other := range []string{
			"", strings.ToUpper(name), strings.ToUpper(name[:1]) + name[1:], name[:len(name)-1] + strings.ToUpper(name[len(name)-1:]),
			name + "s", name[:len(name)-1], name + "\x00", "\t" + name, name + "\t", name + "\r", "\ufeff" + name, name + "\n", "\n" + name, name + "," + name,
		} {
			words[0] = other
			wantSaid(t, formsSession(), "what", strings.Join(words, " "))
		}
	}
}

func TestChapter11LinesThatAreNone(t *testing.T) {
	for _, line := range []string{
		"", " ", "  ", "\t", "\n", "\x00", "\xff\xfe", "ok", "no", "what", "help", "fly", "0", "none", "T", "tracks", "clips 0 1 none", "clip,0,1,none",
		"undo", "length 0", "cost 0", "track 0", "compile 0", strings.Repeat(" ", 100000), strings.Repeat("track ", 10000), strings.Repeat("x", 100000),
	} {
		wantSaid(t, formsSession(), "what", line)
		wantSaid(t, impl.EmptySession(), "what", line)
	}
}

func TestChapter11IndexesAtEachEnd(t *testing.T) {
	s := withStrips(sessionWith(0), slices.Repeat([]impl.Strip{newTrack()}, 8)...)
	for i := range 12 {
		s = withClip(s, clipOf(int64(i%8), int64(i), 1, 2))
	}
	s.Clips = s.Clips[:11]
	wantSaid(t, s, plainText(0, 0, 0, 0, 0, 0, 0, 1, 2), "show 7 9")
	wantSaid(t, s, plainText(1, 2), "show 0 2")
	muted := s.Strips[7]
	muted.Mute = true
	wantLine(t, s, "mute 7", "ok", withStrip(s, 7, muted))
	wantLine(t, s, "mute 0", "ok", withStrip(s, 0, muted))
	wantLine(t, s, "clip 7 0 none", "11", withClip(s, clipOf(7, 0)))
	split := slices.Concat(s.Clips[:10], []impl.Clip{clipOf(2, 10, 1), clipOf(2, 11, 2)})
	wantLine(t, s, "split 10 1", "ok", impl.Session{Clips: split, Strips: s.Strips})
	wantLine(t, s, "repeat 10 1", "ok", withClip(s, clipOf(2, 12, 1, 2)))
	for _, n := range []string{"8", "11", "12", "-1", "4294967295", "4294967296", "1000000000000000", "-1000000000000000", "9223372036854775807", "-9223372036854775808", "18446744073709551615"} {
		wantSaid(t, s, "no", "clip "+n+" 0 none", "tone "+n+" 0 saw 60", "chain "+n+" none", "gain "+n+" 0", "pan "+n+" 00000000", "mute "+n, "solo "+n, "freeze "+n+" 1", "show "+n+" 1")
		if n != "8" {
			wantSaid(t, s, "no", "split "+n+" 1", "repeat "+n+" 1")
		}
	}
}
