package tests

import (
	"fmt"
	"slices"
	"strings"
	"testing"

	"loop.example/g01170/impl"
)

// plainForm is the first word of a line and how many words are behind it.
func plainForm(words []string) string { return fmt.Sprint(words[0], len(words)-1) }

// plainStripLine does what the document tells of the lines that change a track. It reports whether the line is carried out.
func plainStripLine(form string, words []string, strip *impl.Strip) (ok bool) {
	switch form {
	case "chain2":
		strip.Effects, ok = impl.ReadChain(words[2])
	case "gain2":
		strip.Tenths, ok = impl.ReadDecimal(words[2])
	case "pan2":
		list, isList := impl.ReadNumbers(words[2])
		if ok = isList && len(list) == 1; ok {
			strip.Pan = list[0]
		}
	case "mute1":
		strip.Mute, ok = !strip.Mute, true
	case "solo1":
		strip.Solo, ok = !strip.Solo, true
	}
	return ok
}

func plainClipLine(words []string, track, at int64) (impl.Clip, bool) {
	if words[0] == "clip" {
		samples, ok := impl.ReadNumbers(words[3])
		return clipOf(track, at, samples...), ok
	}
	kind := slices.Index([]string{"sine", "saw", "square", "triangle"}, words[3])
	pitch, ok := impl.ReadDecimal(words[4])
	note := impl.Note{Start: 0, Held: 16, Pitch: pitch, Gain: 1}
	samples, also := impl.RenderNote(int64(kind), impl.Envelope{Attack: 4, Decay: 4, Sustain: 0.5, Release: 8}, note, 24)
	return clipOf(track, at, samples...), ok && also
}

// plainTold does what the document tells of the lines that change nothing.
func plainTold(form string, s impl.Session, first, second int64) (string, bool) {
	switch form {
	case "show2":
		channel, ok := impl.ChannelOf(s, first, second)
		return plainText(channel...), ok
	case "bounce1":
		left, right, ok := impl.BounceSession(s, first)
		return plainText(left...) + " " + plainText(right...), ok
	case "peak1":
		left, right, ok := impl.BounceSession(s, first)
		a, _ := impl.PeakOf(left)
		b, _ := impl.PeakOf(right)
		return plainText(a, b), ok
	case "length0":
		length, ok := impl.LengthOf(s)
		return fmt.Sprint(length), ok
	}
	cost, ok := impl.CostOf(s)
	return fmt.Sprint(cost), ok
}

// plainChanged does what the document tells of the lines that change the session by a function of chapter 9.
func plainChanged(form string, s impl.Session, first, second int64) (impl.Session, bool) {
	switch form {
	case "split2":
		return impl.SplitClip(s, first, second)
	case "repeat2":
		return impl.RepeatClip(s, first, second)
	case "freeze2":
		return impl.FreezeTrack(s, first, second)
	}
	return impl.CompileSession(s)
}

// plainNumbers are the first two words of a line behind its name, as numbers, and whether so many of them are.
func plainNumbers(words []string, count int) (numbers [2]int64, ok bool) {
	ok = true
	for i := range count {
		number, isNumber := impl.ReadDecimal(words[i+1])
		numbers[i], ok = number, ok && isNumber
	}
	return numbers, ok
}

// plainLine does what the document tells of a line, apart from the program's console.
func plainLine(s impl.Session, line string) (impl.Session, string) {
	words := strings.Split(line, " ")
	form := plainForm(words)
	next, output, ok := impl.Session{Clips: slices.Clone(s.Clips), Strips: slices.Clone(s.Strips)}, "ok", false
	switch form {
	case "track0":
		next.Strips = append(next.Strips, newTrack())
		output, ok = fmt.Sprint(len(s.Strips)), true
	case "clip3", "tone4":
		n, areNumbers := plainNumbers(words, 2)
		clip, isClip := plainClipLine(words, n[0], n[1])
		next.Clips = append(next.Clips, clip)
		output, ok = fmt.Sprint(len(s.Clips)), areNumbers && isClip
	case "chain2", "gain2", "pan2", "mute1", "solo1":
		n, isNumber := plainNumbers(words, 1)
		if isNumber && n[0] >= 0 && n[0] < int64(len(next.Strips)) {
			ok = plainStripLine(form, words, &next.Strips[n[0]])
		}
	case "split2", "repeat2", "freeze2", "compile0":
		n, areNumbers := plainNumbers(words, len(words)-1)
		next, ok = plainChanged(form, s, n[0], n[1])
		ok = ok && areNumbers
	case "show2", "bounce1", "peak1", "length0", "cost0":
		n, areNumbers := plainNumbers(words, len(words)-1)
		output, ok = plainTold(form, s, n[0], n[1])
		ok = ok && areNumbers
	default:
		return s, "what"
	}
	if !ok || !impl.ValidSession(next) {
		return s, "no"
	}
	return next, output
}

// draws are numbers without a pattern, one after another.
type draws struct{ seed, drawn int }

func (d *draws) below(n int) int {
	d.drawn++
	return int(mixedBits(d.seed, 20000+d.drawn) % uint32(n))
}

func (d *draws) of(list ...string) string { return list[d.below(len(list))] }

// number is mostly a small one.
func (d *draws) number(below int) string {
	if d.below(12) == 0 {
		return d.of("", "-1", "x", "01", "+1", "-0", "12", "13", "256", "257", "2001", "1000000000000001", "4294967296", "9223372036854775808")
	}
	return fmt.Sprint(d.below(below))
}

func (d *draws) numbers(style int) string {
	if d.below(12) == 0 {
		return d.of("none", "", "3f800000,", "7fc00001", "3F800000", plainText(repeated(1, 256)...), plainText(repeated(1, 257)...))
	}
	return plainText(samplesOfStyle(style, d.seed+d.drawn, 1+d.below(20))...)
}

func (d *draws) chain(style int) string {
	text, _ := impl.ChainText(chainOfStyle(style, d.seed+d.drawn, d.below(5)))
	return d.of(text, text, text, text, "0.0.3f800000;"+text, "", "9.0.none", strings.Repeat("5.0.none;", 8)+"5.0.none")
}

// line is mostly one that has a form, and often one that is carried out.
func (d *draws) line(style int) string {
	track, place := d.number(3), d.number(40)
	switch name := d.of("track", "clip", "clip", "clip", "tone", "chain", "chain", "gain", "pan", "mute", "solo", "split", "repeat", "freeze", "compile", "show", "bounce", "peak", "length", "cost", ""); name {
	case "clip":
		return strings.Join([]string{name, track, place, d.numbers(style)}, " ")
	case "tone":
		return strings.Join([]string{name, track, place, d.of("sine", "saw", "square", "triangle", "Sine", ""), d.number(130)}, " ")
	case "chain":
		return name + " " + track + " " + d.chain(style)
	case "gain":
		return name + " " + track + " " + d.of("-", "") + d.number(300)
	case "pan":
		return name + " " + track + " " + d.of(plainText(pansOf(d.seed+d.drawn, 1)...), plainText(pansOf(d.seed+d.drawn, 1)...), "00000000", "3f800000", "7fc00000", "none", "3f000000,3f000000")
	case "mute", "solo":
		return name + " " + track
	case "split", "repeat":
		return name + " " + d.number(6) + " " + d.number(5)
	case "freeze", "show":
		return name + " " + track + " " + place
	case "bounce", "peak":
		return name + " " + place
	default:
		return name + d.of("", "", "", "", "", " ", "s", " 0")
	}
}

func (d *draws) lines(style, count int) []string {
	var lines []string
	for range count {
		line := d.line(style)
		if d.below(20) == 0 {
			line = d.of(" ", "x", "") + line + d.of(" ", " 0", "")
		}
		lines = append(lines, line)
		if d.below(8) == 0 {
			lines = append(lines, line)
		}
	}
	return lines
}

func scriptOf(lines []string) string {
	script := ""
	for _, line := range lines {
		script += line + "\n"
	}
	return script
}

// linesThatFit are so many of some lines that a script can have them.
func linesThatFit(lines []string) []string {
	for len(scriptOf(lines)) > 8000 {
		lines = lines[:len(lines)-1]
	}
	return lines
}

func TestPromise12ScriptsDoWhatTheirLinesDo(t *testing.T) {
	outputs := map[string]int{}
	for style := range styles {
		for seed := range 100 {
			s := impl.EmptySession()
			if seed%2 == 1 {
				s = sessionOfStyle(style, 18400+50*seed)
			}
			d := draws{seed: 100*style + seed}
			lines := linesThatFit(d.lines(style, 40))
			var said []string
			behind := s
			for _, line := range lines {
				next, output := plainLine(behind, line)
				behind = wantLine(t, behind, line, output, next)
				said = append(said, output)
				outputs[output]++
			}
			wantScript(t, s, scriptOf(lines), scriptOf(said), behind)
		}
	}
	if outputs["ok"] < 2000 || outputs["no"] < 2000 || outputs["what"] < 500 || outputs["11"] < 5 {
		t.Errorf("too few lines are carried out, or refused: %d, %d and %d", outputs["ok"], outputs["no"], outputs["what"])
	}
}

func TestPromise12ScriptsAreCutBetweenLines(t *testing.T) {
	for style := range styles {
		for seed := range 10 {
			d := draws{seed: 5000 + 100*style + seed}
			lines := linesThatFit(d.lines(style, 30))
			s := sessionOfStyle(style, 19400+50*seed)
			last, outputs, ok := impl.RunConsole(s, scriptOf(lines))
			if !ok {
				t.Fatalf("%q fails", lines)
			}
			for cut := range len(lines) + 1 {
				middle, first, ok := impl.RunConsole(s, scriptOf(lines[:cut]))
				if !ok || !strings.HasPrefix(outputs, first) {
					t.Fatalf("the first %d of %q: %q", cut, lines, first)
				}
				wantScript(t, middle, scriptOf(lines[cut:]), outputs[len(first):], last)
			}
		}
	}
}

// journalsOfPromise12 are lists of lines of a console, and others.
func journalsOfPromise12() [][]string {
	d := draws{seed: 7000}
	return [][]string{
		{"clip 0 1 3f800000", "pan 0 00000000", "bounce 2", "length"}, {"", "", " ", ""}, {"\x00\xff", "118 a", "a", "\r"}, linesOfDigits(),
		d.lines(0, 4), {"track", "track", "track"}, {"a"}, {},
	}
}

// wantIntact is for a text whose first bytes are those of a journal, so many that are not changed.
func wantIntact(t *testing.T, what, text string, lines []string, intact int) {
	t.Helper()
	count, length := 0, 0
	for i := range lines {
		if end := len(plainJournal(lines[:i+1]...)); end <= intact {
			count, length = i+1, end
		}
	}
	got, end, ok := impl.RecoverJournal(text)
	if !ok || end != int64(length) || !slices.Equal(got, lines[:count]) {
		t.Errorf("%s: %q: got %q %d %v, want %d lines and %d bytes", what, text, got, end, ok, count, length)
	}
	if again, ok := impl.JournalOf(got); !ok || again != text[:end] {
		t.Errorf("%s: the journal of %q is %q %v", what, got, again, ok)
	}
}

func TestPromise12JournalsThatAreCut(t *testing.T) {
	for _, lines := range journalsOfPromise12() {
		journal := plainJournal(lines...)
		for cut := range len(journal) + 1 {
			wantIntact(t, "cut", journal[:cut], lines, cut)
		}
	}
}

func TestPromise12JournalsWithAChangedByte(t *testing.T) {
	for _, lines := range journalsOfPromise12() {
		journal := plainJournal(lines...)
		for i := range len(journal) {
			for step := 1; step < 256; step += 1 + len(journal)/200 {
				text := []byte(journal)
				text[i] += byte(step)
				wantIntact(t, "changed", string(text), lines, i)
			}
		}
	}
}

func TestPromise12JournalsWithMoreOrFewerBytes(t *testing.T) {
	for _, lines := range journalsOfPromise12() {
		journal := plainJournal(lines...)
		for i := range len(journal) + 1 {
			for _, more := range []string{"0", " ", "+", "\x00", "xx", "é"} {
				wantIntact(t, "more", journal[:i]+more+journal[i:], lines, i)
			}
			if i < len(journal) && (i == 0 || journal[i-1] != '\n' || journal[i] != '\n') {
				wantIntact(t, "fewer", journal[:i]+journal[i+1:], lines, i)
			}
		}
	}
}

func TestPromise12LinesThatChangePlaces(t *testing.T) {
	lines := []string{"track", "clip 1 0 3f800000", "mute 1", "bounce 3"}
	journal := plainJournal(lines...)
	entries := strings.SplitAfter(journal, "\n")
	for i := range lines {
		for k := range i {
			others := slices.Clone(entries)
			others[i], others[k] = others[k], others[i]
			wantIntact(t, "two lines for each other", strings.Join(others, ""), lines, len(plainJournal(lines[:k]...)))
		}
		without := slices.Delete(slices.Clone(entries), i, i+1)
		wantIntact(t, "one line less", strings.Join(without, ""), lines, len(plainJournal(lines[:i]...)))
		twice := slices.Insert(slices.Clone(entries), i, entries[i])
		wantIntact(t, "one line twice", strings.Join(twice, ""), lines, len(plainJournal(lines[:i+1]...)))
	}
}

// What has been recovered of a journal brings back the session, as far as its lines are there.
func TestPromise12RecoveredLinesAreCarriedOut(t *testing.T) {
	for style := range styles {
		d := draws{seed: 9000 + style}
		lines := d.lines(style, 60)
		for len(plainJournal(lines...)) > 8000 {
			lines = lines[:len(lines)-1]
		}
		journal, ok := impl.JournalOf(lines)
		if !ok || journal != plainJournal(lines...) {
			t.Fatalf("%q: %q %v", lines, journal, ok)
		}
		for cut := 0; cut <= len(journal); cut += 1 + len(journal)/50 {
			got, _, ok := impl.RecoverJournal(journal[:cut])
			if !ok || !slices.Equal(got, lines[:len(got)]) {
				t.Fatalf("%q is no part of %q", got, lines)
			}
			behind := impl.EmptySession()
			for _, line := range got {
				behind, _ = plainLine(behind, line)
			}
			session, _, ok := impl.RunConsole(impl.EmptySession(), scriptOf(got))
			wantSession(t, "a recovered session", session, ok, behind)
		}
	}
}
