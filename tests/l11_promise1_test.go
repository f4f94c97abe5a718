package tests

import (
	"reflect"
	"slices"
	"strings"
	"sync"
	"testing"

	"loop.example/g01170/impl"
)

func consoleOutcome(s impl.Session, output string, ok bool) []any {
	return append(sessionOutcome(s, ok), output)
}

func recoveredOutcome(lines []string, length int64, ok bool) []any {
	return plain(slices.Concat([]string{}, lines), length, ok)
}

// anyLines are right ones, wrong ones, and ones that are no lines of a console.
func anyLines() []string {
	lines := append(anyTexts(), "length\n", "\n", "track\n", "bounce 256", "show 0 256", "peak 256", "clip 0 0 "+plainText(edgeNumbers()...), "chain 0 "+textOfEach, "pan 0 7fc00000")
	for _, right := range rightLines() {
		lines = append(lines, right.line, right.line+" ", strings.ToUpper(right.line))
	}
	for style := range styles {
		d := draws{seed: 14000 + style}
		lines = append(lines, d.lines(style, 20)...)
	}
	return append(lines, "bounce "+strings.Repeat("0", 100000), strings.Repeat("bounce ", 100000), "clip 0 0 "+strings.Repeat("3f800000,", 100000), "chain 0 "+strings.Repeat(";", 100000))
}

func TestPromise1Console(t *testing.T) {
	for _, s := range anySessions() {
		g := guardSession(s)
		for _, line := range anyLines() {
			wantTwice(t, "ConsoleCommand", func() []any { return consoleOutcome(impl.ConsoleCommand(g.session, line)) })
		}
		for _, script := range anyScripts() {
			wantTwice(t, "RunConsole", func() []any { return consoleOutcome(impl.RunConsole(g.session, script)) })
		}
		if !g.isUntouched() {
			t.Errorf("%v was modified", s)
		}
	}
	wantTwice(t, "EmptySession", func() []any { return sessionOutcome(impl.EmptySession(), true) })
}

func anyScripts() []string {
	scripts := append(anyTexts(), "\n", "length", scriptOfThree("ms."), strings.Repeat("\n", 8000), strings.Repeat("\n", 8001), strings.Repeat("track\n", 1333), strings.Repeat("mute 0\nbounce 9\n", 500))
	for style := range styles {
		d := draws{seed: 15000 + style}
		scripts = append(scripts, scriptOf(linesThatFit(d.lines(style, 30))))
	}
	return scripts
}

func TestPromise1Journals(t *testing.T) {
	lists := append(journalsOfPromise12(), nil, []string{"\n"}, []string{"a", "b\n"}, make([]string, 100000), anyTexts(), []string{strings.Repeat("x", 8000)})
	for _, list := range lists {
		lines := guard(list, "behind", slices.Equal[[]string])
		wantTwice(t, "JournalOf", func() []any { return outcome(impl.JournalOf(lines.list)) })
		if !lines.isUntouched() {
			t.Errorf("%.200q was modified", list)
		}
	}
	for _, text := range append(anyTexts(), plainJournal("a", "", "b"), "118 a\n118 \nxx", "118 a", strings.Repeat("0 \n", 2666), strings.Repeat("0 \n", 2667), plainJournal("\xff\x00", " ")) {
		wantTwice(t, "RecoverJournal", func() []any { return recoveredOutcome(impl.RecoverJournal(text)) })
	}
}

func TestPromise1ConsolesShareNoMemory(t *testing.T) {
	for _, s := range append(anySessions(), sharedSession(), impl.EmptySession()) {
		if !impl.ValidSession(s) {
			continue
		}
		g := guardSession(s)
		var sessions []impl.Session
		for _, line := range []string{
			"", "length", "mute 9", "mute 0", "pan 0 00000000", "clip 0 0 3f800000,40000000", "tone 0 3 sine 60", "chain 0 5.0.none;0.0.3f800000", "track", "split 0 1", "repeat 0 1",
			"freeze 0 9", "compile", "show 0 9", "bounce 9", "split 0 0", "gain 0 2001",
		} {
			next, _, ok := impl.ConsoleCommand(g.session, line)
			behind, _, also := impl.RunConsole(g.session, line+"\n"+line+"\n")
			if !ok || !also {
				t.Fatalf("%q fails", line)
			}
			sessions = append(sessions, next, behind)
		}
		same, _, ok := impl.RunConsole(g.session, "")
		built, _, also := impl.RunConsole(g.session, scriptOfThree("s.b"))
		if !ok || !also {
			t.Fatal("a script fails")
		}
		sessions = append(sessions, same, built, impl.EmptySession(), impl.EmptySession())
		wantSessionsApart(t, "consoles", sessions)
		if !g.isUntouched() {
			t.Errorf("a result of %v shares memory with it", s)
		}
	}
}

func TestPromise1RecoveredLinesShareNoMemory(t *testing.T) {
	lines := guard([]string{"a", "", "b c"}, "behind", slices.Equal[[]string])
	journal, _ := impl.JournalOf(lines.list)
	first, _, _ := impl.RecoverJournal(journal)
	second, length, ok := impl.RecoverJournal(journal)
	first = first[:cap(first)]
	for i := range first {
		first[i] = "overwritten"
	}
	if !ok || length != int64(len(journal)) || !slices.Equal(second, lines.list) || !lines.isUntouched() {
		t.Errorf("%q was overwritten", second)
	}
}

// Nothing is kept from one call to the next.
func TestPromise1ConsolesKeepNothing(t *testing.T) {
	script, other := scriptOfThree(".s.")+bouncesUpTo(40), scriptOfThree("m..")+bouncesUpTo(40)
	want, wantOther := consoleOutcome(impl.RunConsole(impl.EmptySession(), script)), consoleOutcome(impl.RunConsole(impl.EmptySession(), other))
	if reflect.DeepEqual(want, wantOther) {
		t.Fatal("both scripts are the same")
	}
	var callers sync.WaitGroup
	for range 4 {
		callers.Add(1)
		go func() {
			defer callers.Done()
			for range 20 {
				got, gotOther := consoleOutcome(impl.RunConsole(impl.EmptySession(), script)), consoleOutcome(impl.RunConsole(impl.EmptySession(), other))
				if !reflect.DeepEqual(got, want) || !reflect.DeepEqual(gotOther, wantOther) {
					t.Errorf("%v, and then %v", want, got)
					return
				}
			}
		}()
	}
	callers.Wait()
}

func TestPromise1ConsolesOfNilAndEmptyLists(t *testing.T) {
	null := impl.Session{Clips: []impl.Clip{{At: 3}}, Strips: []impl.Strip{{}, {}}}
	empty := impl.Session{Clips: []impl.Clip{{At: 3, Samples: []float32{}}}, Strips: []impl.Strip{{Effects: []impl.Effect{}}, {Effects: []impl.Effect{}}}}
	for _, line := range anyLines() {
		first, second := consoleOutcome(impl.ConsoleCommand(null, line)), consoleOutcome(impl.ConsoleCommand(empty, line))
		if !reflect.DeepEqual(first, second) || slices.Contains(first, any(false)) {
			t.Errorf("%.200q: %v and %v", line, first, second)
		}
	}
	null.Clips, empty.Clips = nil, []impl.Clip{}
	for _, script := range []string{"", "clip 0 0 none\nlength\n", scriptOfThree("...")} {
		first, second := consoleOutcome(impl.RunConsole(null, script)), consoleOutcome(impl.RunConsole(empty, script))
		if !reflect.DeepEqual(first, second) || slices.Contains(first, any(false)) {
			t.Errorf("%q: %v and %v", script, first, second)
		}
	}
	for i, pair := range [][2][]any{
		{outcome(impl.JournalOf(nil)), outcome(impl.JournalOf([]string{}))},
		{recoveredOutcome(impl.RecoverJournal("")), recoveredOutcome([]string{}, 0, true)},
		{recoveredOutcome(impl.RecoverJournal(strings.Repeat("x", 8001))), recoveredOutcome(nil, 0, false)},
	} {
		if !reflect.DeepEqual(pair[0], pair[1]) {
			t.Errorf("pair %d: %v and %v", i, pair[0], pair[1])
		}
	}
}
