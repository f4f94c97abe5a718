package tests

import (
	"fmt"
	"strings"
	"testing"

	"loop.example/g01170/impl"
)

// bouncesUpTo is a script that bounces counts up to one.
func bouncesUpTo(count int) string {
	return fmt.Sprintf("bounce %d\nbounce 0\nbounce %d\nbounce %d\npeak %d\n", count, min(1, count), count/2, count)
}

// wantBouncedAlike is for lines that freeze tracks for count samples or compile the session. It returns how many of them are carried out.
func wantBouncedAlike(t *testing.T, s impl.Session, count int, lines []string) int {
	t.Helper()
	script := bouncesUpTo(count)
	before, done := toldOf(t, s, script), 0
	for i, line := range lines {
		next, output, ok := impl.ConsoleCommand(s, line)
		if !ok || output != "ok" && output != "no" {
			t.Fatalf("%s: %q %v", line, output, ok)
		}
		if output == "ok" {
			done++
		}
		if after := toldOf(t, next, script); after != before {
			t.Errorf("%v behind %q: got %.300s, want %.300s", s, lines[:i+1], after, before)
		}
		s = next
	}
	return done
}

// ordersOf are all orders of some lines.
func ordersOf(lines []string) [][]string {
	if len(lines) == 0 {
		return [][]string{nil}
	}
	var orders [][]string
	for i, first := range lines {
		others := append(append([]string{}, lines[:i]...), lines[i+1:]...)
		for _, rest := range ordersOf(others) {
			orders = append(orders, append([]string{first}, rest...))
		}
	}
	return orders
}

// scriptOfThree makes three tracks with clips, tones and effects. A letter tells of each whether it is muted, solo, or both.
func scriptOfThree(letters string) string {
	script := "track\ntrack\nclip 0 0 3f800000,80000000,bf000000,7f800000\ntone 1 3 saw 60\nclip 2 1 3dcccccd,3e4ccccd,3e99999a,bf19999a\nclip 1 0 40000000,c0400000,00000001\n" +
		"tone 0 5 triangle 80\ntone 2 9 square 35\nchain 0 0.0.3f800000;2.3.3f000000,3e800000;6.2.3f000000,3e000000\nchain 1 1.0.3e4ccccd,3ecccccd,bdcccccd,bfc00000,3f333333;0.0.3f800000\n" +
		"chain 2 3.0.3f000000,3e800000,3f800000,40000000;5.0.none;0.0.bf800000;4.0.3e99999a\ngain 0 -35\ngain 2 60\npan 0 3e800000\npan 1 3f333333\n"
	for track, letter := range letters {
		if strings.ContainsRune("mb", letter) {
			script += fmt.Sprintf("mute %d\n", track)
		}
		if strings.ContainsRune("sb", letter) {
			script += fmt.Sprintf("solo %d\n", track)
		}
	}
	return script
}

func TestPromise13FrozenAndCompiledInAnyOrder(t *testing.T) {
	for n := range 1 << 6 {
		letters := ""
		for i := range 3 {
			letters += ".msb"[n>>(2*i)%4:][:1]
		}
		s, outputs, ok := impl.RunConsole(impl.EmptySession(), scriptOfThree(letters))
		if !ok || strings.Contains(outputs, "no") || strings.Contains(outputs, "what") {
			t.Fatalf("%q %v", outputs, ok)
		}
		for i, lines := range ordersOf([]string{"freeze 0 %d", "freeze 1 %d", "freeze 2 %d", "compile"}) {
			count := []int{256, 40, 33, 1, 0}[(n+i)%5]
			for k := range lines {
				lines[k] = strings.Replace(lines[k], "%d", fmt.Sprint(count), 1)
			}
			if done := wantBouncedAlike(t, s, count, lines); done != 4 {
				t.Errorf("only %d lines of %q are carried out", done, lines)
			}
		}
	}
}

func TestPromise13FrozenAndCompiledInOneScript(t *testing.T) {
	for _, letters := range []string{"...", "m..", ".s.", "bs.", "..m", "mmm"} {
		build := scriptOfThree(letters)
		bounce := "bounce 100\n"
		lines := []string{"freeze 1 100\n", "compile\n", "freeze 0 200\n", "freeze 2 100\n", "freeze 1 256\n", "compile\n", "compile\n", "freeze 0 100\n"}
		plain, one := toldOf(t, impl.EmptySession(), build+bounce), toldOf(t, impl.EmptySession(), build)
		want := strings.TrimPrefix(plain, one)
		outputs := one + want
		script := build + bounce
		for _, line := range lines {
			script += line + bounce
			outputs += "ok\n" + want
		}
		if got := toldOf(t, impl.EmptySession(), script); got != outputs {
			t.Errorf("%s: got %s, want %s", letters, got, outputs)
		}
	}
}

func TestPromise13AnySessions(t *testing.T) {
	done := 0
	for style := range styles {
		for i, s := range sessionsOfPromise10(style, 21000) {
			d := draws{seed: 12000 + 100*style + i}
			count := []int{256, 100, 17, 0, 1, 255}[d.below(6)]
			var lines []string
			for range 6 {
				freeze := fmt.Sprintf("freeze %d %d", d.below(len(s.Strips)), count+d.below(257-count))
				lines = append(lines, d.of(freeze, freeze, freeze, "compile"))
			}
			done += wantBouncedAlike(t, s, count, lines)
		}
	}
	if done < 500 {
		t.Errorf("only %d lines are carried out", done)
	}
}

func TestPromise13AllTracksOfAnySessions(t *testing.T) {
	for style := range styles {
		for i, s := range sessionsOfPromise10(style, 22000) {
			count := []int{256, 60, 9}[i%3]
			var lines []string
			for track := range s.Strips {
				lines = append(lines, fmt.Sprintf("freeze %d %d", (track+i)%len(s.Strips), count))
			}
			at := i % (len(lines) + 1)
			lines = append(lines[:at:at], append([]string{"compile"}, lines[at:]...)...)
			wantBouncedAlike(t, s, count, lines)
		}
	}
}

// The sessions that lines lead to are those that other tests are not made for.
func TestPromise13SessionsOfAnyLines(t *testing.T) {
	done := 0
	for style := range styles {
		for seed := range 40 {
			d := draws{seed: 13000 + 100*style + seed}
			s, _, ok := impl.RunConsole(impl.EmptySession(), scriptOf(linesThatFit(d.lines(style, 50))))
			if !ok {
				t.Fatalf("the lines %d fail", d.seed)
			}
			var lines []string
			for track := range s.Strips {
				freeze := fmt.Sprintf("freeze %d 80", track)
				lines = append(lines, freeze, d.of("compile", "freeze 0 80", freeze))
			}
			done += wantBouncedAlike(t, s, 80, lines)
		}
	}
	if done < 200 {
		t.Errorf("only %d lines are carried out", done)
	}
}
