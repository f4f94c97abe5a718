package tests

import (
	"fmt"
	"strings"
	"testing"

	"loop.example/g01170/impl"
)

// plainCheck does what the document tells of check numbers, apart from the program.
func plainCheck(s string) int {
	check := 0
	for _, b := range []byte(s) {
		check = (577*check + int(b) + 21) % 65003
	}
	return check
}

// checked puts the right check number behind a text.
func checked(s string) string { return fmt.Sprint(s, plainCheck(s)) }

func wantText(t *testing.T, what, got string, ok bool, want string) {
	t.Helper()
	if !ok || got != want {
		t.Errorf("%s: got %q %v, want %q", what, got, ok, want)
	}
}

func wantChainText(t *testing.T, list []impl.Effect, want string) {
	t.Helper()
	text, ok := impl.ChainText(list)
	wantText(t, "ChainText", text, ok, want)
	back, ok := impl.ReadChain(want)
	wantEffects(t, "ReadChain "+want, back, ok, list...)
}

// wantStateText has the text without the check number.
func wantStateText(t *testing.T, list []impl.Effect, state [][]float32, want string) {
	t.Helper()
	text, ok := impl.StateText(list, state)
	wantText(t, "StateText", text, ok, checked(want))
	effects, back, ok := impl.ReadState(checked(want))
	wantEffects(t, "ReadState "+want, effects, ok, list...)
	wantState(t, "ReadState "+want, back, ok, state...)
}

func wantNoStateText(t *testing.T, what, s string) {
	t.Helper()
	list, state, ok := impl.ReadState(s)
	wantNoList(t, what+" "+s, list, ok)
	wantNoList(t, what+" "+s, state, ok)
}

// textOfEach is the text of oneOfEach.
const textOfEach = "0.0.3f400000;1.0.3e4ccccd,3ecccccd,bdcccccd,bfc00000,3f333333;2.3.3f000000,3e800000;" +
	"3.0.3f000000,3e800000,3f800000,40000000;4.0.40000000;5.0.none;6.2.3f000000,3e000000"

func TestChapter8TextsOfChains(t *testing.T) {
	wantChainText(t, chainOf(gainBy(0.5)), "0.0.3f000000")
	wantChainText(t, nil, "none")
	wantChainText(t, oneOfEach(), textOfEach)
	wantChainText(t, chainOf(bend()), "5.0.none")
	wantChainText(t, chainOf(limitAt(32, largest, notANum), echoOf(1, minus0, tiny)), "6.32.7f7fffff,7fc00000;2.1.80000000,00000001")
	wantChainText(t, chainOf(limitAt(0, tiny, -infinity)), "6.0.00000001,ff800000")
	wantChainText(t, chainOf(gainBy(rawNumber(0xffc00001))), "0.0.7fc00000")
	wantChainText(t, chainOf(bend(), bend(), bend(), bend(), bend(), bend(), bend(), bend()),
		"5.0.none;5.0.none;5.0.none;5.0.none;5.0.none;5.0.none;5.0.none;5.0.none")
	text, ok := impl.ChainText([]impl.Effect{})
	wantText(t, "an empty list", text, ok, "none")
	text, ok = impl.ChainText(chainOf(impl.Effect{Kind: impl.EffectBend, Numbers: []float32{}}))
	wantText(t, "an empty list of Numbers", text, ok, "5.0.none")
}

func TestChapter8OtherTextsThanOfChains(t *testing.T) {
	for _, s := range []string{
		"", " ", "None", "none ", " none", "none;", ";none", "none;none", "none;5.0.none", "5.0.none;none", "nonesuch", "none|", "none\n",
		"5", "5.", "5.0", "5.0.", "5.0.none.", ".5.0.none", "5..none", ".0.none", "5.0..none", "5.0none", "50.none", "5,0,none",
		"5.0.none;", ";5.0.none", "5.0.none;;5.0.none", "5.0.none,5.0.none", "5.0.none 5.0.none", "5.0.none; 5.0.none", "5.0.none|",
		"05.0.none", "+5.0.none", "-5.0.none", "5.00.none", "5.-0.none", "5.+0.none", " 5.0.none", "5.0.none ", "5. 0.none", "5.0.None", "5.0.\x00",
		"5.0.00000000", "5.1.none", "5.-1.none", "7.0.none", "-1.0.none", "7.0.3f800000", "1000000000000001.0.none", "4294967301.0.none",
		"00.0.3f000000", "-0.0.3f000000", "+0.0.3f000000", ".0.3f000000", " 0.0.3f000000", "x.0.3f000000", "9223372036854775808.0.3f000000",
		"0.00.3f000000", "0.-0.3f000000", "0..3f000000", "0.x.3f000000", "0. 0.3f000000", "6.00.3f800000,00000000", "6.x.3f800000,00000000",
		"0.0.none", "0.0.3F000000", "0.0.3f00000", "0.0.03f000000", "0.0.3f0000000", "0.0.+f000000", "0.0.3f000000,", "0.0.,3f000000",
		"0.0.3f000000,3f000000", "0.1.3f000000", "0.0.7fc00001", "0.0.ffc00000", "0.0.7f800001", "0.0.7FC00000", "0.0.3f000000.3f000000",
		"1.0.00000000,00000000,00000000,00000000", "1.0.00000000,00000000,00000000,00000000,00000000,00000000", "1.2.00000000,00000000,00000000,00000000,00000000",
		"2.0.3f000000,3f800000", "2.33.3f000000,3f800000", "2.-1.3f000000,3f800000", "2.1.3f000000", "2.1.3f000000,3f800000,3f800000",
		"2.01.3f000000,3f800000", "2.4294967297.3f000000,3f800000", "3.0.3f000000,3f000000,3f000000", "3.1.3f000000,3f000000,3f000000,3f000000",
		"4.0.none", "4.0.3f000000,3f000000", "4.32.3f000000", "6.33.3f000000,3f000000", "6.-1.3f000000,3f000000", "6.0.3f000000",
		"6.0.00000000,00000000", "6.0.80000000,00000000", "6.0.bf800000,00000000", "6.0.7f800000,00000000", "6.0.ff800000,00000000",
		"6.0.7fc00000,00000000", "6.0.80000001,00000000", "５.0.none", "\xff", strings.Repeat("5.0.none;", 8) + "5.0.none", strings.Repeat("5.0.none;", 8),
		strings.Repeat(";", 8), strings.Repeat(".", 5000), strings.Repeat("5.0.none;", 5000), "0.0." + strings.Repeat("3f000000,", 300),
	} {
		list, ok := impl.ReadChain(s)
		wantNoList(t, "ReadChain "+s, list, ok)
	}
}

func TestChapter8TextsOfStates(t *testing.T) {
	wantStateText(t, nil, nil, "none|none|")
	wantStateText(t, chainOf(gainBy(0.5)), [][]float32{nil}, "0.0.3f000000|none|")
	wantStateText(t, chainOf(gainBy(0.5), bend()), [][]float32{nil, {}}, "0.0.3f000000;5.0.none|none;none|")
	wantStateText(t, chainOf(echoOf(1, 0, 1), gainBy(2)), [][]float32{{0.5}, nil}, "2.1.00000000,3f800000;0.0.40000000|3f000000;none|")
	state, _ := impl.NewState(oneOfEach())
	wantStateText(t, oneOfEach(), state,
		textOfEach+"|none;00000000,00000000;00000000,00000000,00000000;00000000;none;none;3f800000,00000000,00000000|")
	wantStateText(t, chainOf(limitAt(0, 1, 0)), [][]float32{{notANum}}, "6.0.3f800000,00000000|7fc00000|")
	wantStateText(t, chainOf(echoOf(4, infinity, -infinity)), [][]float32{{infinity, -infinity, minus0, tiny}},
		"2.4.7f800000,ff800000|7f800000,ff800000,80000000,00000001|")
	wantStateText(t, chainOf(squeezeWith(0, 0, 0, 0)), [][]float32{{rawNumber(0xff812345)}}, "3.0.00000000,00000000,00000000,00000000|7fc00000|")
}

// TestChapter8CheckNumbersOfStates has check numbers that were computed apart from the program.
func TestChapter8CheckNumbersOfStates(t *testing.T) {
	for _, want := range []string{"none|none|51679", "0.0.3f000000|none|35698"} {
		list, state, ok := impl.ReadState(want)
		if text, also := impl.StateText(list, state); !ok || !also || text != want {
			t.Errorf("%s: %v %v, and %q %v", want, list, ok, text, also)
		}
	}
}

func TestChapter8OtherTextsThanOfStates(t *testing.T) {
	for _, s := range []string{
		"none||", "|none|", "||", "none|", "none", "", "|", "none|none||", "|none|none|", "none|none|none|", "none|none;none|", "none|;|", "none|none;|",
		"none|00000000|", "none|7fc00000|", "5.0.none||", "5.0.none|00000000|", "5.0.none|none;none|", "5.0.none|none;|", "5.0.none|;none|", "5.0.none|;|",
		"5.0.none;5.0.none|none|", "5.0.none;5.0.none|none;none;none|", "5.0.none;5.0.none|none,none|", "5.0.none|none ", "5.0.none| none|", "5.0.none |none|",
		"2.1.00000000,00000000|none|", "2.1.00000000,00000000|00000000,00000000|", "2.2.00000000,00000000|00000000|", "2.2.00000000,00000000|00000000;00000000|",
		"2.1.00000000,00000000|0000000A|", "2.1.00000000,00000000|0000000|", "2.1.00000000,00000000|7fc00001|", "2.1.00000000,00000000|ff800001|",
		"02.1.00000000,00000000|00000000|", "2.01.00000000,00000000|00000000|", "2.0.00000000,00000000|none|", "2.0.00000000,00000000||",
		"2.33.00000000,00000000|" + strings.Repeat("00000000,", 32) + "00000000|", "7.0.none|none|", "6.0.00000000,00000000|3f800000|", "6.0.3f800000,00000000|none|",
		strings.Repeat("5.0.none;", 8) + "5.0.none|" + strings.Repeat("none;", 8) + "none|", strings.Repeat("5.0.none;", 3000), strings.Repeat("|", 5000),
	} {
		wantNoStateText(t, "with a right check number", checked(s))
		wantNoStateText(t, "with a further end", checked(s+"|"))
		wantNoStateText(t, "without a check number", s)
	}
	body := "5.0.none|none|"
	for _, end := range []string{"", " ", "0", "|", "none", "-1", "65003", "99999999999999999999"} {
		wantNoStateText(t, "another check number", body+end)
	}
	for _, s := range []string{body + "0", body + "+", body + "-", body + " ", " " + body, "\x00" + body} {
		wantNoStateText(t, "more in front of the check number", fmt.Sprint(s, plainCheck(body)))
	}
	for _, end := range []string{" ", "|", "\n", "\x00", ".0", "0", ";"} {
		wantNoStateText(t, "more behind the check number", checked(body)+end)
	}
	for _, more := range []int{-1, 1, 65003, -65003, 1 << 32} {
		wantNoStateText(t, "a wrong check number", fmt.Sprint(body, plainCheck(body)+more))
	}
}

// textsOfStates have all kinds of parts.
func textsOfStates(t *testing.T) []string {
	t.Helper()
	texts := []string{checked("none|none|"), checked("5.0.none|none|"), checked("5.0.none;5.0.none|none;none|")}
	for seed := range 6 {
		list := chainOfStyle(seed%styles, 4000+20*seed, 1+seed)
		if seed == 5 {
			list = oneOfEach()
		}
		text, ok := impl.StateText(list, stateOfStyle(seed%styles, 4200+20*seed, list))
		if !ok {
			t.Fatalf("%v has no text", list)
		}
		texts = append(texts, text)
	}
	return texts
}

func TestChapter8TextsWithAChangedByte(t *testing.T) {
	for _, text := range textsOfStates(t) {
		for place := range len(text) {
			for change := 1; change < 256; change++ {
				changed := []byte(text)
				changed[place] ^= byte(change)
				if list, state, ok := impl.ReadState(string(changed)); ok || len(list) > 0 || len(state) > 0 {
					t.Errorf("%q is read as %v %v %v", changed, list, state, ok)
				}
			}
		}
	}
}

func TestChapter8TextsThatAreCut(t *testing.T) {
	for _, text := range textsOfStates(t) {
		if _, _, ok := impl.ReadState(text); !ok {
			t.Errorf("%q is not read", text)
		}
		for end := range len(text) {
			wantNoStateText(t, "a text that is cut", text[:end])
		}
		for start := 1; start < len(text); start++ {
			wantNoStateText(t, "a text without its beginning", text[start:])
		}
	}
}

func TestChapter8TextsAreReadAsTheyWereWritten(t *testing.T) {
	for style := range styles {
		for seed := range 200 {
			list := chainOfStyle(style, 4400+20*seed, seed%9)
			state := stateOfStyle(style, 4500+20*seed, list)
			text, ok := impl.ChainText(list)
			effects, also := impl.ReadChain(text)
			wantEffects(t, "a chain", effects, ok && also, list...)
			text, ok = impl.StateText(list, state)
			effects, back, also := impl.ReadState(text)
			wantEffects(t, "a chain with a state", effects, ok && also, list...)
			wantState(t, "a state", back, ok && also, state...)
			wantText(t, "the check number", text, ok, checked(text[:strings.LastIndex(text, "|")+1]))
		}
	}
}
