package tests

import (
	"fmt"
	"strings"
	"testing"

	"loop.example/g01170/impl"
)

func wantScript(t *testing.T, s impl.Session, script, outputs string, want impl.Session) {
	t.Helper()
	got, said, ok := impl.RunConsole(s, script)
	if !ok || said != outputs {
		t.Errorf("%.200q: got %.200q %v, want %.200q", script, said, ok, outputs)
	}
	wantSession(t, fmt.Sprintf("behind %.200q", script), got, ok, want)
}

// wantNoConsole is for a session or a text that is wrong.
func wantNoConsole(t *testing.T, what string, s impl.Session, output string, ok bool) {
	t.Helper()
	wantNoNewSession(t, what, s, ok)
	wantZero(t, what, output, ok)
}

func wantNoScript(t *testing.T, s impl.Session, script string) {
	t.Helper()
	got, said, ok := impl.RunConsole(s, script)
	wantNoConsole(t, fmt.Sprintf("%.200q", script), got, said, ok)
}

func TestChapter11ScriptsByHand(t *testing.T) {
	s := exampleSession()
	wantScript(t, s, "", "", s)
	wantScript(t, impl.EmptySession(), "", "", impl.EmptySession())
	wantScript(t, s, "length\n", "2\n", s)
	wantScript(t, s, "\n", "what\n", s)
	wantScript(t, s, "\n\n\n", "what\nwhat\nwhat\n", s)
	wantScript(t, s, "\nlength\n\ncost\n", "what\n2\nwhat\n3\n", s)
	wantScript(t, s, " \n  \nlength \n length\n", "what\nwhat\nwhat\nwhat\n", s)
	wantScript(t, s, "length\r\nlength\n", "what\n2\n", s)
	wantScript(t, s, "bounce 0\nbounce 0\n", "none none\nnone none\n", s)
	wantScript(t, s, "mute 1\nmute 0\nmute 0\n", "no\nok\nok\n", s)
	wantScript(t, s, "split 0 1\nsplit 0 1\nrepeat 1 1\nlength\n", "ok\nno\nok\n3\n",
		sessionWith(1, clipOf(0, 0, 1), clipOf(0, 1, 2), clipOf(0, 1, 4), clipOf(0, 2, 2)))
	wantScript(t, s, "track\nclip 1 0 none\ntrack\nclip 2 0 none\nclip 3 0 none\n", "1\n2\n2\n3\nno\n",
		impl.Session{Clips: append(exampleSession().Clips, clipOf(1, 0), clipOf(2, 0)), Strips: []impl.Strip{{}, newTrack(), newTrack()}})
	wantScript(t, s, "clip 0 0 \xff\nchain 0 \x00\n\xff\x00\n", "no\nno\nwhat\n", s)
}

func TestChapter11ScriptsWithoutALastNewline(t *testing.T) {
	for _, script := range []string{"length", "length\nlength", "length\n\nx", " ", "x", "\x00", "\nx", "length\n ", "length\n\r", "length\r", strings.Repeat("x", 8000)} {
		wantNoScript(t, exampleSession(), script)
		wantNoScript(t, impl.EmptySession(), script)
	}
}

func TestChapter11LongestScripts(t *testing.T) {
	s := exampleSession()
	wantScript(t, s, strings.Repeat("\n", 8000), strings.Repeat("what\n", 8000), s)
	wantScript(t, s, strings.Repeat("x", 7999)+"\n", "what\n", s)
	wantScript(t, s, strings.Repeat("length\n", 1142)+"cost \n", strings.Repeat("2\n", 1142)+"what\n", s)
	wantScript(t, s, strings.Repeat("mute 0\n", 1142)+"mute0\n", strings.Repeat("ok\n", 1142)+"what\n", s)
	wantScript(t, s, strings.Repeat("\n", 7993)+"length\n", strings.Repeat("what\n", 7993)+"2\n", s)
	for _, script := range []string{
		strings.Repeat("\n", 8001), strings.Repeat("x", 8000) + "\n", strings.Repeat("length\n", 1143), strings.Repeat("\n", 1000000), strings.Repeat("mute 0\n", 100000),
	} {
		wantNoScript(t, s, script)
	}
	numbers := mixedSamples(13000, 256)
	line := "clip 0 0 " + plainText(numbers...) + "\n"
	wantScript(t, s, line+line+line+"cost\n", "2\n3\n4\n771\n", withClip(withClip(withClip(s, clipOf(0, 0, numbers...)), clipOf(0, 0, numbers...)), clipOf(0, 0, numbers...)))
}

func TestChapter11WrongSessions(t *testing.T) {
	for _, s := range wrongSessions() {
		for _, line := range []string{"track", "length", "bounce 0", "", "x", "mute 0", "show 0 0"} {
			got, said, ok := impl.ConsoleCommand(s, line)
			wantNoConsole(t, "a wrong session", got, said, ok)
			wantNoScript(t, s, line+"\n")
		}
		wantNoScript(t, s, "")
		wantNoScript(t, s, "length")
	}
}
