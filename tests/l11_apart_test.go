package tests

import (
	"fmt"
	"testing"

	"loop.example/g01170/impl"
)

// consoleRow has the check numbers of the outputs of a script, and of the text of the session behind it.
type consoleRow struct {
	script           string
	outputs, session int64
}

// consoleRows were computed apart from the program.
func consoleRows() []consoleRow {
	return []consoleRow{
		{scriptOfSounds, 2756, 30671},
		{scriptOfSubnormals, 45189, 44040},
		{scriptOfMistakes, 28345, 41202},
	}
}

// scriptOfSounds has all commands.
const scriptOfSounds = `track
clip 0 1 3f800000,bf000000,3e99999a,40490fdb,c1200000
tone 1 3 sine 69
tone 1 20 saw 100
tone 0 9 triangle 33
tone 0 30 square 127
cost
length
show 0 60
show 1 50
chain 0 0.0.3f400000;1.0.3e4ccccd,3ecccccd,bdcccccd,bfc00000,3f333333;2.3.3f000000,3e800000;3.0.3f000000,3e800000,3f800000,40000000;4.0.40000000;5.0.none;6.2.3f000000,3e000000
chain 1 0.0.3f800000;2.5.bf19999a,3f000000;0.0.3f800000;5.0.none
gain 0 -35
gain 1 47
pan 0 3e4ccccd
pan 1 3f19999a
show 0 60
show 1 60
bounce 80
peak 80
split 1 10
repeat 0 3
split 4 2
bounce 70
track
tone 2 0 saw 12
pan 2 3f7fffff
chain 2 3.0.3dcccccd,3c23d70a,3e4ccccd,41200000;6.32.3e99999a,3a83126f
solo 2
bounce 60
solo 1
mute 2
peak 100
bounce 30
solo 2
solo 1
mute 2
cost
freeze 2 90
cost
show 2 90
freeze 1 60
compile
cost
length
bounce 60
peak 256
`

// scriptOfSubnormals has numbers that are flushed, infinities and not-a-numbers.
const scriptOfSubnormals = `clip 0 0 00000001,80000001,007fffff,807fffff,00800000,80800000,80000000,00000000
clip 0 4 00000001,00000003,80000002,80400000,7fc00000,3f800000,7f800000,bf800000
track
clip 1 0 01000000,81200000,00c00000,80a00000,00900000
chain 1 1.0.3f000000,3e800000,3f000000,bf000000,3e800000;2.2.3f000000,bf000000
show 0 14
show 1 40
bounce 40
peak 40
chain 0 2.1.3f000000,3f000000
gain 1 -1500
gain 0 -2000
bounce 20
pan 0 80000000
pan 1 3f800000
bounce 12
freeze 0 12
freeze 1 40
compile
show 0 12
show 1 40
gain 0 2000
peak 12
`

// scriptOfMistakes has lines that are refused, and lines that are none.
const scriptOfMistakes = `clip 0 0 3f800000,40000000,40400000

 clip 0 0 3f800000
clip 0 0 3F800000
clip 0  0 3f800000
clip  0 3f800000
Clip 0 0 3f800000
clip 1 0 3f800000
clip 0 257 none
clip 0 256 none
tone 0 0 Sine 60
tone 0 0 sine 128
tone 0 -0 sine 60
tone 0 0 sine 060
chain 0 7.0.none
chain 0 none
chain 0 5.0.none
pan 0 none
pan 0 3f000000,3f000000
pan 0 7fc00000
pan 0 3f800001
gain 0 2001
gain 0 +5
mute -1
mute 1
solo 0
split 0 3
split 1 0
split 0 1
split 2 1
repeat 1 1
repeat 2 13
repeat 2 0
freeze 0 257
freeze 1 4
show 0 257
bounce -1
peak 1e1
length 1
cost 
track 1
compile all
show 0 6
bounce 6
peak 0
bounce 0
`

func textOfSession(t *testing.T, s impl.Session) string {
	t.Helper()
	text := ""
	for _, c := range s.Clips {
		text += fmt.Sprintf("%d/%d/%s ", c.Track, c.At, plainText(c.Samples...))
	}
	for _, strip := range s.Strips {
		chain, ok := impl.ChainText(strip.Effects)
		if !ok {
			t.Fatalf("%v is no chain", strip.Effects)
		}
		text += fmt.Sprintf("%s/%d/%s/%v/%v ", chain, strip.Tenths, plainText(strip.Pan), strip.Mute, strip.Solo)
	}
	return text
}

func TestChapter11ScriptsComputedApart(t *testing.T) {
	for i, want := range consoleRows() {
		s, outputs, ok := impl.RunConsole(impl.EmptySession(), want.script)
		if !ok {
			t.Fatalf("the script %d fails", i)
		}
		first, _ := impl.CheckOf(0, outputs)
		second, _ := impl.CheckOf(0, textOfSession(t, s))
		if first != want.outputs || second != want.session {
			t.Errorf("the script %d: got %d and %d, want %d and %d", i, first, second, want.outputs, want.session)
		}
	}
}
