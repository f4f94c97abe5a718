package tests

import (
	"math"
	"testing"

	"loop.example/g01170/impl"
)

// functionRow has the bits of a number, and those that the steps of the document lead to from there:
// ExpNumber, LogNumber, RootNumber, TanhNumber and SineTurns, in this order.
type functionRow struct {
	x    uint32
	want [5]uint32
}

// functionRows were computed apart from the program, with 64-bit numbers and a rounding by fractions.
func functionRows() []functionRow {
	return []functionRow{
		{0x00000000, [5]uint32{0x3f800000, 0xff800000, 0x00000000, 0x00000000, 0x00000000}},
		{0x80000000, [5]uint32{0x3f800000, 0xff800000, 0x80000000, 0x00000000, 0x80000000}},
		{0x00000001, [5]uint32{0x3f800000, 0xc2ce8ed0, 0x1a3504f3, 0x00000000, 0x00000006}},
		{0x80000001, [5]uint32{0x3f800000, 0x7fc00000, 0x7fc00000, 0x00000000, 0x80000000}},
		{0x007fffff, [5]uint32{0x3f800000, 0xc2aeac50, 0x1fffffff, 0x00000000, 0x01c90fd9}},
		{0x807fffff, [5]uint32{0x3f800000, 0x7fc00000, 0x7fc00000, 0x00000000, 0x80000000}},
		{0x00800000, [5]uint32{0x3f800000, 0xc2aeac50, 0x20000000, 0x00000000, 0x01c90fdb}},
		{0x80800000, [5]uint32{0x3f800000, 0x7fc00000, 0x7fc00000, 0x00000000, 0x80000000}},
		{0x1e3ce508, [5]uint32{0x3f800000, 0xc23834f1, 0x2edbe6ff, 0x00000000, 0x1f945b86}},
		{0x9e3ce508, [5]uint32{0x3f800000, 0x7fc00000, 0x7fc00000, 0x00000000, 0x80000000}},
		{0x3dcccccd, [5]uint32{0x3f8d763e, 0xc0135d8e, 0x3ea1e89b, 0x3dcc1ebc, 0x3f167918}},
		{0xbdcccccd, [5]uint32{0x3f67a36d, 0x7fc00000, 0x7fc00000, 0xbdcc1ebc, 0xbf167918}},
		{0x3e000000, [5]uint32{0x3f910b02, 0xc0051592, 0x3eb504f3, 0x3dfeacc9, 0x3f3504f3}},
		{0xbe000000, [5]uint32{0x3f61eb51, 0x7fc00000, 0x7fc00000, 0xbdfeacc9, 0xbf3504f3}},
		{0x3e99999a, [5]uint32{0x3facc82d, 0xbf9a1bc8, 0x3f0c378c, 0x3e9526ee, 0x3f737870}},
		{0xbe99999a, [5]uint32{0x3f3da643, 0x7fc00000, 0x7fc00000, 0xbe9526ee, 0xbf737870}},
		{0x3f19999a, [5]uint32{0x3fe93b31, 0xbf02c577, 0x3f464bf8, 0x3f097c15, 0xbf16791a}},
		{0xbf19999a, [5]uint32{0x3f0c7eeb, 0x7fc00000, 0x7fc00000, 0xbf097c15, 0x3f16791a}},
		{0x3f666666, [5]uint32{0x401d6a23, 0xbdd7c745, 0x3f72dce8, 0x3f375f4c, 0xbf16791a}},
		{0xbf666666, [5]uint32{0x3ed029e6, 0x7fc00000, 0x7fc00000, 0xbf375f4c, 0x3f16791a}},
		{0x3f800000, [5]uint32{0x402df854, 0x00000000, 0x3f800000, 0x3f42f7d6, 0x00000000}},
		{0xbf800000, [5]uint32{0x3ebc5ab2, 0x7fc00000, 0x7fc00000, 0xbf42f7d6, 0x00000000}},
		{0x3fa00000, [5]uint32{0x405f61c7, 0x3e647fbe, 0x3f8f1bbd, 0x3f59291e, 0x3f800000}},
		{0xbfa00000, [5]uint32{0x3e92b0c2, 0x7fc00000, 0x7fc00000, 0xbf59291e, 0xbf800000}},
		{0x3fe00000, [5]uint32{0x40b825b5, 0x3f0f42fb, 0x3fa953fd, 0x3f70fdfd, 0xbf800000}},
		{0xbfe00000, [5]uint32{0x3e31f1cc, 0x7fc00000, 0x7fc00000, 0xbf70fdfd, 0x3f800000}},
		{0x40000000, [5]uint32{0x40ec7326, 0x3f317218, 0x3fb504f3, 0x3f76ca83, 0x00000000}},
		{0xc0000000, [5]uint32{0x3e0a9555, 0x7fc00000, 0x7fc00000, 0xbf76ca83, 0x00000000}},
		{0x40400000, [5]uint32{0x41a0af2e, 0x3f8c9f54, 0x3fddb3d7, 0x3f7ebbe9, 0x00000000}},
		{0xc0400000, [5]uint32{0x3d4bed86, 0x7fc00000, 0x7fc00000, 0xbf7ebbe9, 0x00000000}},
		{0x40e9999a, [5]uint32{0x44b9099b, 0x3ffe72ab, 0x402ceb22, 0x3f7ffff1, 0x3f73786a}},
		{0xc0e9999a, [5]uint32{0x3a3116a2, 0x7fc00000, 0x7fc00000, 0xbf7ffff1, 0xbf73786a}},
		{0x41200000, [5]uint32{0x46ac14ee, 0x40135d8e, 0x404a62c2, 0x3f800000, 0x00000000}},
		{0xc1200000, [5]uint32{0x383e6bce, 0x7fc00000, 0x7fc00000, 0xbf800000, 0x00000000}},
		{0x42480000, [5]uint32{0x638c881f, 0x407a5e96, 0x40e24630, 0x3f800000, 0x00000000}},
		{0xc2480000, [5]uint32{0x1b692beb, 0x7fc00000, 0x7fc00000, 0xbf800000, 0x00000000}},
		{0x42f6e979, [5]uint32{0x7f800000, 0x409a1bba, 0x4131c6f7, 0x3f800000, 0x3e8bbf57}},
		{0xc2f6e979, [5]uint32{0x00000000, 0x7fc00000, 0x7fc00000, 0xbf800000, 0xbe8bbf57}},
		{0x447a0000, [5]uint32{0x7f800000, 0x40dd0c55, 0x41fcfb72, 0x3f800000, 0x00000000}},
		{0xc47a0000, [5]uint32{0x00000000, 0x7fc00000, 0x7fc00000, 0xbf800000, 0x00000000}},
		{0x46831280, [5]uint32{0x7f800000, 0x411ba4fc, 0x430186eb, 0x3f800000, 0x3f800000}},
		{0xc6831280, [5]uint32{0x00000000, 0x7fc00000, 0x7fc00000, 0xbf800000, 0xbf800000}},
		{0x4affffff, [5]uint32{0x7f800000, 0x417f1402, 0x453504f3, 0x3f800000, 0x80000000}},
		{0xcaffffff, [5]uint32{0x00000000, 0x7fc00000, 0x7fc00000, 0xbf800000, 0x80000000}},
		{0x4b800000, [5]uint32{0x7f800000, 0x41851592, 0x45800000, 0x3f800000, 0x00000000}},
		{0xcb800000, [5]uint32{0x00000000, 0x7fc00000, 0x7fc00000, 0xbf800000, 0x00000000}},
		{0x501502f9, [5]uint32{0x7f800000, 0x41b834f1, 0x47c35000, 0x3f800000, 0x00000000}},
		{0xd01502f9, [5]uint32{0x00000000, 0x7fc00000, 0x7fc00000, 0xbf800000, 0x00000000}},
		{0x59000000, [5]uint32{0x7f800000, 0x420d66eb, 0x4c3504f3, 0x3f800000, 0x00000000}},
		{0xd9000000, [5]uint32{0x00000000, 0x7fc00000, 0x7fc00000, 0xbf800000, 0x00000000}},
		{0x7f61b1e6, [5]uint32{0x7f800000, 0x42b13196, 0x5f705ece, 0x3f800000, 0x00000000}},
		{0xff61b1e6, [5]uint32{0x00000000, 0x7fc00000, 0x7fc00000, 0xbf800000, 0x00000000}},
		{0x3e7fffff, [5]uint32{0x3fa45af2, 0xbfb17218, 0x3effffff, 0x3e7acbf4, 0x3f800000}},
		{0xbe7fffff, [5]uint32{0x3f475f7d, 0x7fc00000, 0x7fc00000, 0xbe7acbf4, 0xbf800000}},
		{0x3e800000, [5]uint32{0x3fa45af2, 0xbfb17218, 0x3f000000, 0x3e7acbf5, 0x3f800000}},
		{0xbe800000, [5]uint32{0x3f475f7d, 0x7fc00000, 0x7fc00000, 0xbe7acbf5, 0xbf800000}},
		{0x3e800001, [5]uint32{0x3fa45af2, 0xbfb17217, 0x3f000000, 0x3e7acbf7, 0x3f800000}},
		{0xbe800001, [5]uint32{0x3f475f7d, 0x7fc00000, 0x7fc00000, 0xbe7acbf7, 0xbf800000}},
		{0x3effffff, [5]uint32{0x3fd3094c, 0xbf317219, 0x3f3504f3, 0x3eec9a9e, 0x34490fdb}},
		{0xbeffffff, [5]uint32{0x3f1b4598, 0x7fc00000, 0x7fc00000, 0xbeec9a9e, 0xb4490fdb}},
		{0x3f000000, [5]uint32{0x3fd3094c, 0xbf317218, 0x3f3504f3, 0x3eec9a9f, 0x80000000}},
		{0xbf000000, [5]uint32{0x3f1b4598, 0x7fc00000, 0x7fc00000, 0xbeec9a9f, 0x80000000}},
		{0x3f000001, [5]uint32{0x3fd3094d, 0xbf317216, 0x3f3504f4, 0x3eec9aa0, 0xb4c90fdb}},
		{0xbf000001, [5]uint32{0x3f1b4597, 0x7fc00000, 0x7fc00000, 0xbeec9aa0, 0x34c90fdb}},
		{0x3f3fffff, [5]uint32{0x40077ced, 0xbe934b13, 0x3f5db3d7, 0x3f22991f, 0xbf800000}},
		{0xbf3fffff, [5]uint32{0x3ef1da08, 0x7fc00000, 0x7fc00000, 0xbf22991f, 0x3f800000}},
		{0x3f400000, [5]uint32{0x40077cee, 0xbe934b11, 0x3f5db3d7, 0x3f22991f, 0xbf800000}},
		{0xbf400000, [5]uint32{0x3ef1da07, 0x7fc00000, 0x7fc00000, 0xbf22991f, 0x3f800000}},
		{0x3f400001, [5]uint32{0x40077cee, 0xbe934b0e, 0x3f5db3d8, 0x3f229920, 0xbf800000}},
		{0xbf400001, [5]uint32{0x3ef1da06, 0x7fc00000, 0x7fc00000, 0xbf229920, 0x3f800000}},
		{0x3fbfffff, [5]uint32{0x408f69fe, 0x3ecf991d, 0x3f9cc470, 0x3f67b7cb, 0x35490fdb}},
		{0xbfbfffff, [5]uint32{0x3e647c3d, 0x7fc00000, 0x7fc00000, 0xbf67b7cb, 0xb5490fdb}},
		{0x3fc00000, [5]uint32{0x408f69ff, 0x3ecf991f, 0x3f9cc471, 0x3f67b7cc, 0x80000000}},
		{0xbfc00000, [5]uint32{0x3e647c3c, 0x7fc00000, 0x7fc00000, 0xbf67b7cc, 0x80000000}},
		{0x3fc00001, [5]uint32{0x408f6a00, 0x3ecf9922, 0x3f9cc471, 0x3f67b7cc, 0xb5490fdb}},
		{0xbfc00001, [5]uint32{0x3e647c3a, 0x7fc00000, 0x7fc00000, 0xbf67b7cc, 0x35490fdb}},
		{0x419fffff, [5]uint32{0x4de75827, 0x403fba13, 0x408f1bbc, 0x3f800000, 0xb7490fdb}},
		{0xc19fffff, [5]uint32{0x310da444, 0x7fc00000, 0x7fc00000, 0xbf800000, 0x37490fdb}},
		{0x41a00000, [5]uint32{0x4de75844, 0x403fba14, 0x408f1bbd, 0x3f800000, 0x00000000}},
		{0xc1a00000, [5]uint32{0x310da433, 0x7fc00000, 0x7fc00000, 0xbf800000, 0x00000000}},
		{0x41a00001, [5]uint32{0x4de75861, 0x403fba14, 0x408f1bbd, 0x3f800000, 0x37490fdb}},
		{0xc1a00001, [5]uint32{0x310da421, 0x7fc00000, 0x7fc00000, 0xbf800000, 0xb7490fdb}},
		{0x4347ffff, [5]uint32{0x7f800000, 0x40a98bd1, 0x4162462f, 0x3f800000, 0xb8c90fdb}},
		{0xc347ffff, [5]uint32{0x00000000, 0x7fc00000, 0x7fc00000, 0xbf800000, 0x38c90fdb}},
		{0x43480000, [5]uint32{0x7f800000, 0x40a98bd1, 0x41624630, 0x3f800000, 0x00000000}},
		{0xc3480000, [5]uint32{0x00000000, 0x7fc00000, 0x7fc00000, 0xbf800000, 0x00000000}},
		{0x43480001, [5]uint32{0x7f800000, 0x40a98bd1, 0x41624631, 0x3f800000, 0x38c90fdb}},
		{0xc3480001, [5]uint32{0x00000000, 0x7fc00000, 0x7fc00000, 0xbf800000, 0xb8c90fdb}},
		{0x42b17217, [5]uint32{0x7f7fff84, 0x408f895b, 0x4116b55f, 0x3f800000, 0xbf7c4778}},
		{0xc2b17217, [5]uint32{0x0020000f, 0x7fc00000, 0x7fc00000, 0xbf800000, 0x3f7c4778}},
		{0x42b17218, [5]uint32{0x7f800000, 0x408f895c, 0x4116b55f, 0x3f800000, 0xbf7c4801}},
		{0xc2b17218, [5]uint32{0x001fffff, 0x7fc00000, 0x7fc00000, 0xbf800000, 0x3f7c4801}},
		{0x42b17219, [5]uint32{0x7f800000, 0x408f895c, 0x4116b560, 0x3f800000, 0xbf7c4889}},
		{0xc2b17219, [5]uint32{0x001fffef, 0x7fc00000, 0x7fc00000, 0xbf800000, 0x3f7c4889}},
		{0x597fffff, [5]uint32{0x7f800000, 0x42102cb3, 0x4c7fffff, 0x3f800000, 0x00000000}},
		{0xd97fffff, [5]uint32{0x00000000, 0x7fc00000, 0x7fc00000, 0xbf800000, 0x00000000}},
		{0x59800000, [5]uint32{0x7f800000, 0x42102cb3, 0x4c800000, 0x3f800000, 0x00000000}},
		{0xd9800000, [5]uint32{0x00000000, 0x7fc00000, 0x7fc00000, 0xbf800000, 0x00000000}},
		{0x59800001, [5]uint32{0x7f800000, 0x42102cb4, 0x4c800000, 0x3f800000, 0x00000000}},
		{0xd9800001, [5]uint32{0x00000000, 0x7fc00000, 0x7fc00000, 0xbf800000, 0x00000000}},
		{0x42aeac4f, [5]uint32{0x7e7fffb4, 0x408f0859, 0x411586c4, 0x3f800000, 0x3f5b141b}},
		{0xc2aeac4f, [5]uint32{0x00800026, 0x7fc00000, 0x7fc00000, 0xbf800000, 0xbf5b141b}},
		{0x42cff1b4, [5]uint32{0x7f800000, 0x40949ca7, 0x4123258f, 0x3f800000, 0xbe32bd51}},
		{0xc2cff1b4, [5]uint32{0x00000001, 0x7fc00000, 0x7fc00000, 0xbf800000, 0x3e32bd51}},
		{0x42ce8ed0, [5]uint32{0x7f800000, 0x409465db, 0x41229a1c, 0x3f800000, 0x3f7bc83b}},
		{0xc2ce8ed0, [5]uint32{0x00000001, 0x7fc00000, 0x7fc00000, 0xbf800000, 0xbf7bc83b}},
		{0x7f7fffff, [5]uint32{0x7f800000, 0x42b17218, 0x5f7fffff, 0x3f800000, 0x00000000}},
		{0xff7fffff, [5]uint32{0x00000000, 0x7fc00000, 0x7fc00000, 0xbf800000, 0x00000000}},
		{0x7f800000, [5]uint32{0x7f800000, 0x7f800000, 0x7f800000, 0x3f800000, 0x7fc00000}},
		{0xff800000, [5]uint32{0x00000000, 0x7fc00000, 0x7fc00000, 0xbf800000, 0x7fc00000}},
		{0x7fc00000, [5]uint32{0x7fc00000, 0x7fc00000, 0x7fc00000, 0x7fc00000, 0x7fc00000}},
		{0xff800001, [5]uint32{0x7fc00000, 0x7fc00000, 0x7fc00000, 0x7fc00000, 0x7fc00000}},
		// From here on, numbers at which a series with other bounds or fewer steps leads to other bits.
		{0x3f80005f, [5]uint32{0x402df8d5, 0x373dffb9, 0x3f80002f, 0x3f42f825, 0x389539c4}},
		{0x3f800061, [5]uint32{0x402df8d8, 0x3741ffb6, 0x3f800030, 0x3f42f827, 0x38985e04}},
		{0x3fba35a0, [5]uint32{0x4089121e, 0x3ebfeb4a, 0x3f9a62a1, 0x3f658992, 0x3e8f947f}},
		{0x3f3b31d3, [5]uint32{0x4004f7ee, 0xbea04548, 0x3f5ae919, 0x3f1fb273, 0xbf7e38b8}},
		{0x44bc4360, [5]uint32{0x7f800000, 0x40ea272e, 0x421b3bfb, 0x3f800000, 0x3f1d7fd1}},
		{0x483c8988, [5]uint32{0x7f800000, 0x4142bb77, 0x43dbb1b6, 0x3f800000, 0x3f3504f3}},
		{0x42ab1399, [5]uint32{0x7d298f3a, 0x408e5dea, 0x4113faa3, 0x3f800000, 0xbe73e77a}},
		{0x42afdbd8, [5]uint32{0x7ee79112, 0x408f3fc4, 0x41160877, 0x3f800000, 0xbedbcb98}},
		{0xc2abb454, [5]uint32{0x018d2f96, 0x7fc00000, 0x7fc00000, 0xbf800000, 0x3f4d0162}},
		{0xc29d3a00, [5]uint32{0x06c00196, 0x7fc00000, 0x7fc00000, 0xbf800000, 0x3f273656}},
		{0xc2ac0052, [5]uint32{0x01736c63, 0x7fc00000, 0x7fc00000, 0xbf800000, 0xbb80ce12}},
		{0xc2ae7135, [5]uint32{0x008fa9a1, 0x7fc00000, 0x7fc00000, 0xbf800000, 0xbf7bcb12}},
		{0x42986cba, [5]uint32{0x76777bcb, 0x408aac3a, 0x410badf4, 0x3f800000, 0x3f78df6c}},
		{0x3f436dce, [5]uint32{0x400950a2, 0xbe8a3ae9, 0x3f5fac66, 0x3f24a05c, 0xbf7f180e}},
		{0x3e6d6f87, [5]uint32{0x3fa16708, 0xbfbb14e5, 0x3ef68b0c, 0x3e694522, 0x3f7e5749}},
		{0x3e73e525, [5]uint32{0x3fa26c7f, 0xbfb7a55a, 0x3ef9dfcf, 0x3e6f62aa, 0x3f7f4b50}},
	}
}

func TestChapter1FunctionsBitForBit(t *testing.T) {
	names := []string{"ExpNumber", "LogNumber", "RootNumber", "TanhNumber", "SineTurns"}
	functions := []func(float32) float32{impl.ExpNumber, impl.LogNumber, impl.RootNumber, impl.TanhNumber, impl.SineTurns}
	for _, row := range functionRows() {
		for i, function := range functions {
			if got := oneBits(function(rawNumber(row.x))); got != row.want[i] {
				t.Errorf("%s of %08x (%v): got %08x, want %08x", names[i], row.x, rawNumber(row.x), got, row.want[i])
			}
		}
	}
}

func TestChapter1FunctionExamples(t *testing.T) {
	wantNumber(t, "the sine of 0.25 turns", impl.SineTurns(0.25), 1)
	wantNumber(t, "the sine of 0.75 turns", impl.SineTurns(0.75), -1)
	gain, ok := impl.GainOf(0)
	wantSum(t, "the gain of 0 tenths", gain, ok, 1)
}

func TestChapter1FunctionsOfZerosAndInfinities(t *testing.T) {
	for _, c := range []struct {
		what      string
		got, want float32
	}{
		{"exp 0", impl.ExpNumber(0), 1},
		{"exp -0", impl.ExpNumber(minus0), 1},
		{"exp infinity", impl.ExpNumber(infinity), infinity},
		{"exp -infinity", impl.ExpNumber(-infinity), 0},
		{"log 0", impl.LogNumber(0), -infinity},
		{"log -0", impl.LogNumber(minus0), -infinity},
		{"log 1", impl.LogNumber(1), 0},
		{"log infinity", impl.LogNumber(infinity), infinity},
		{"log -infinity", impl.LogNumber(-infinity), notANum},
		{"log of the greatest negative number", impl.LogNumber(-tiny), notANum},
		{"root 0", impl.RootNumber(0), 0},
		{"root -0", impl.RootNumber(minus0), minus0},
		{"root infinity", impl.RootNumber(infinity), infinity},
		{"root -infinity", impl.RootNumber(-infinity), notANum},
		{"root of the greatest negative number", impl.RootNumber(-tiny), notANum},
		{"tanh 0", impl.TanhNumber(0), 0},
		{"tanh -0", impl.TanhNumber(minus0), 0},
		{"tanh infinity", impl.TanhNumber(infinity), 1},
		{"tanh -infinity", impl.TanhNumber(-infinity), -1},
		{"sine 0", impl.SineTurns(0), 0},
		{"sine -0", impl.SineTurns(minus0), minus0},
		{"sine 1/2", impl.SineTurns(0.5), minus0},
		{"sine 1", impl.SineTurns(1), 0},
		{"sine -1", impl.SineTurns(-1), 0},
		{"sine -1/4", impl.SineTurns(-0.25), -1},
		{"sine 5/4", impl.SineTurns(1.25), 1},
		{"sine just below 0", impl.SineTurns(-tiny), minus0},
		{"sine 2 to the power of 52", impl.SineTurns(1 << 52), 0},
		{"sine -2 to the power of 52", impl.SineTurns(-1 << 52), 0},
		{"sine of the greatest number", impl.SineTurns(largest), 0},
		{"sine infinity", impl.SineTurns(infinity), notANum},
		{"sine -infinity", impl.SineTurns(-infinity), notANum},
	} {
		wantNumber(t, c.what, c.got, c.want)
	}
}

func TestChapter1FunctionsOfNotANumbers(t *testing.T) {
	for _, bits := range []uint32{0x7f800001, 0x7fc00000, 0x7fffffff, 0xff800001, 0xffc00000} {
		x := rawNumber(bits)
		for i, got := range []float32{impl.ExpNumber(x), impl.LogNumber(x), impl.RootNumber(x), impl.TanhNumber(x), impl.SineTurns(x)} {
			if !isNaN(got) {
				t.Errorf("function %d of the not-a-number %08x is %v", i, bits, got)
			}
		}
	}
}

// wantNear allows for few steps between neighbouring numbers, where the true value is known.
func wantNear(t *testing.T, what string, x, got float32, want float64) {
	t.Helper()
	if math.Abs(float64(got)-want) > 1.2e-7*math.Abs(want)+1e-12 {
		t.Errorf("%s(%v) = %v, but it is about %v", what, x, got, want)
	}
}

func TestChapter1FunctionsAreNearTheTrueOnes(t *testing.T) {
	for i := -800; i <= 800; i++ {
		x := float32(i) / 10.7
		wide := float64(x)
		wantNear(t, "ExpNumber", x, impl.ExpNumber(x), math.Exp(wide))
		wantNear(t, "TanhNumber", x, impl.TanhNumber(x), math.Tanh(wide))
		wantNear(t, "SineTurns", x, impl.SineTurns(x), math.Sin(2*math.Pi*math.Mod(wide, 1)))
		if i > 0 {
			wantNear(t, "LogNumber", x, impl.LogNumber(x), math.Log(wide))
			wantNear(t, "RootNumber", x, impl.RootNumber(x), math.Sqrt(wide))
		}
	}
}

func TestChapter1GainOf(t *testing.T) {
	for _, c := range []struct {
		tenths int64
		want   uint32
	}{
		{-2000, 0x2edbe6ff},
		{-1999, 0x2ede72dc},
		{-60, 0x3f004dce},
		{-1, 0x3f7d11d1},
		{0, 0x3f800000},
		{1, 0x3f817b70},
		{60, 0x3fff64c1},
		{200, 0x41200000},
		{1999, 0x50134e4f},
		{2000, 0x501502f9},
	} {
		got, ok := impl.GainOf(c.tenths)
		wantSum(t, "GainOf", got, ok, rawNumber(c.want))
	}
	for _, tenths := range []int64{-2001, 2001, math.MinInt64, math.MaxInt64} {
		got, ok := impl.GainOf(tenths)
		wantZero(t, "GainOf out of range", got, ok)
	}
}
