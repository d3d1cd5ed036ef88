package tests

import (
	"math"
	"slices"
	"strconv"
	"strings"
	"testing"

	"loop.example/g00053/impl"
)

// The edges that chapter 6 names, with their values written out.

const nan = uint32(impl.TheNaN)
const threeHalves = uint32(0x3fc00000)

// wholeEdge: a sign between two whole numbers, and what comes of it.
type wholeEdge struct {
	op         string
	a, b, want int64
}

func heldWholeEdges(t *testing.T, l []wholeEdge) {
	t.Helper()
	for _, e := range l {
		if got := impl.OpWords(e.op, impl.TWhole, uint32(e.a), uint32(e.b)); got != uint32(e.want) {
			t.Errorf("%d %s %d is %d, want %d", e.a, e.op, e.b, signed(got), e.want)
		}
		heldOp(t, e.op, impl.TWhole, uint32(e.a), uint32(e.b))
	}
}

func TestQuotientsAndRestsByNought(t *testing.T) {
	t.Parallel()
	for _, a := range []int64{0, 1, -1, 5, -5, math.MaxInt32, math.MinInt32} {
		heldWholeEdges(t, []wholeEdge{{"/", a, 0, 0}, {"%", a, 0, 0}})
	}
}

func TestQuotientsAndRests(t *testing.T) {
	t.Parallel()
	heldWholeEdges(t, []wholeEdge{
		{"/", 7, 2, 3}, {"/", -7, 2, -3}, {"/", 7, -2, -3}, {"/", -7, -2, 3},
		{"%", 7, 2, 1}, {"%", -7, 2, -1}, {"%", 7, -2, 1}, {"%", -7, -2, -1},
		{"/", 1, 2, 0}, {"/", -1, 2, 0}, {"%", 1, 2, 1}, {"%", -1, 2, -1},
		{"/", 6, 3, 2}, {"%", 6, 3, 0}, {"/", -6, 3, -2}, {"%", -6, 3, 0},
		{"/", 0, 5, 0}, {"%", 0, -5, 0},
		{"/", math.MinInt32, -1, math.MinInt32}, {"%", math.MinInt32, -1, 0},
		{"/", math.MinInt32, 1, math.MinInt32}, {"%", math.MinInt32, 1, 0},
		{"/", math.MinInt32, math.MinInt32, 1}, {"%", math.MinInt32, math.MinInt32, 0},
		{"/", math.MinInt32, 2, -1073741824}, {"%", math.MinInt32, 3, -2},
		{"/", math.MaxInt32, -1, -math.MaxInt32}, {"%", math.MaxInt32, -1, 0},
		{"/", math.MaxInt32, math.MinInt32, 0}, {"%", math.MaxInt32, math.MinInt32, math.MaxInt32},
		{"/", math.MinInt32, math.MaxInt32, -1}, {"%", math.MinInt32, math.MaxInt32, -1},
		{"/", -1, math.MinInt32, 0}, {"%", -1, math.MinInt32, -1},
	})
}

func TestShifts(t *testing.T) {
	t.Parallel()
	heldWholeEdges(t, []wholeEdge{
		{"<<", 1, 0, 1}, {"<<", 1, 1, 2}, {"<<", 1, 31, math.MinInt32}, {"<<", 1, 32, 1}, {"<<", 1, 33, 2}, {"<<", 1, 64, 1},
		{"<<", 1, -1, math.MinInt32}, {"<<", 1, -31, 2}, {"<<", 1, -32, 1}, {"<<", 1, -33, math.MinInt32}, {"<<", 3, -30, 12},
		{"<<", 3, 31, math.MinInt32}, {"<<", 2, 31, 0}, {"<<", -1, 4, -16}, {"<<", math.MaxInt32, 1, -2},
		{"<<", 5, math.MinInt32, 5}, {"<<", 5, math.MaxInt32, math.MinInt32},
		{">>", 8, 0, 8}, {">>", 8, 1, 4}, {">>", 8, 3, 1}, {">>", 8, 4, 0}, {">>", 8, 31, 0}, {">>", 8, 32, 8}, {">>", 8, 33, 4},
		{">>", 8, -1, 0}, {">>", 8, -31, 4}, {">>", 8, -32, 8}, {">>", 8, -30, 2},
		{">>", -8, 0, -8}, {">>", -8, 1, -4}, {">>", -8, 3, -1}, {">>", -8, 4, -1}, {">>", -8, 31, -1}, {">>", -8, 32, -8}, {">>", -8, 33, -4}, {">>", -8, -1, -1},
		{">>", -7, 1, -4}, {">>", -1, 5, -1}, {">>", math.MinInt32, 31, -1}, {">>", math.MinInt32, 30, -2}, {">>", math.MaxInt32, 30, 1},
		{">>", -8, math.MinInt32, -8}, {">>", -8, math.MaxInt32, -1},
	})
}

func TestSumsAndProductsWrap(t *testing.T) {
	t.Parallel()
	heldWholeEdges(t, []wholeEdge{
		{"+", math.MaxInt32, 1, math.MinInt32}, {"+", math.MinInt32, -1, math.MaxInt32}, {"+", math.MinInt32, math.MinInt32, 0}, {"+", -1, 1, 0}, {"+", 2, 3, 5},
		{"-", math.MinInt32, 1, math.MaxInt32}, {"-", 0, math.MinInt32, math.MinInt32}, {"-", math.MaxInt32, -1, math.MinInt32}, {"-", 2, 5, -3},
		{"*", 65536, 65536, 0}, {"*", 65536, 32768, math.MinInt32}, {"*", 46341, 46341, -2147479015}, {"*", math.MinInt32, -1, math.MinInt32}, {"*", math.MaxInt32, math.MaxInt32, 1}, {"*", -3, 5, -15},
		{"&", -1, 5, 5}, {"&", 12, 10, 8}, {"|", 12, 10, 14}, {"|", math.MinInt32, 1, math.MinInt32 + 1}, {"^", 12, 10, 6}, {"^", -1, 5, -6}, {"^", 7, 7, 0},
	})
}

func TestWholesCompared(t *testing.T) {
	t.Parallel()
	heldWholeEdges(t, []wholeEdge{
		{"<", -1, 0, 1}, {"<", 0, -1, 0}, {"<", 3, 3, 0}, {"<", math.MinInt32, math.MaxInt32, 1}, {"<", math.MaxInt32, math.MinInt32, 0},
		{"<=", 3, 3, 1}, {"<=", 4, 3, 0}, {"<=", -4, 3, 1}, {">", 0, -1, 1}, {">", -1, 0, 0}, {">", 3, 3, 0},
		{">=", 3, 3, 1}, {">=", 2, 3, 0}, {">=", 2, -3, 1}, {"==", 2, 2, 1}, {"==", 2, -2, 0}, {"!=", 2, 2, 0}, {"!=", 2, 3, 1},
		{"==", math.MinInt32, math.MinInt32, 1}, {"==", math.MinInt32, 0, 0},
	})
}

// wordEdge: an operation on words, and what comes of it.
type wordEdge struct {
	op         string
	a, b, want uint32
}

func heldWordEdges(t *testing.T, kind int, l []wordEdge) {
	t.Helper()
	for _, e := range l {
		if got := impl.OpWords(e.op, kind, e.a, e.b); got != e.want {
			t.Errorf("%#x %s %#x of kind %d is %#x, want %#x", e.a, e.op, e.b, kind, got, e.want)
		}
		heldOp(t, e.op, kind, e.a, e.b)
	}
}

func TestSumsAndProductsOfFloats(t *testing.T) {
	t.Parallel()
	heldWordEdges(t, impl.TFloat, []wordEdge{
		{"+", one, one, two}, {"-", one, one, 0}, {"*", two, threeHalves, 0x40400000}, {"/", one, 0x40400000, 0x3eaaaaab},
		{"+", 0, minus, 0}, {"+", minus, minus, minus}, {"+", minus, 0, 0}, {"+", 0, 0, 0},
		{"-", 0, 0, 0}, {"-", minus, minus, 0}, {"-", minus, 0, minus}, {"-", 0, minus, 0}, {"-", one | minus, one | minus, 0},
		{"*", 0, one | minus, minus}, {"*", minus, minus, 0}, {"*", infinite, one | minus, infinite | minus}, {"*", infinite, 0, nan}, {"*", minus, infinite, nan},
		{"/", one, 0, infinite}, {"/", one, minus, infinite | minus}, {"/", 0, 0, nan}, {"/", minus, 0, nan}, {"/", infinite, infinite, nan}, {"/", one, infinite | minus, minus}, {"/", infinite, 0, infinite},
		{"+", infinite, infinite, infinite}, {"+", infinite, infinite | minus, nan}, {"-", infinite, infinite, nan}, {"-", infinite, infinite | minus, infinite}, {"-", one, infinite, infinite | minus},
		{"+", greatest, greatest, infinite}, {"-", greatest, 0x73000000, greatest - 1}, {"-", greatest, 0x72ffffff, greatest}, {"*", greatest, two, infinite}, {"*", 1, 0x3f000000, 0}, {"*", 3, 0x3f000000, 2}, {"/", 1, two, 0}, {"/", 3, two, 2}, {"/", 5 | minus, two, 2 | minus}, {"/", 7, two, 4},
		{"+", one, 0x33800000, one}, {"+", one + 1, 0x33800000, one + 2}, {"+", one, 0x33800001, one + 1}, // of two as near the even one
		{"+", nan, one, nan}, {"-", one, farNaN, nan}, {"*", 0x7f800001, 0, nan}, {"/", one, 0xffffffff, nan}, {"-", nan | minus, nan | minus, nan},
	})
}

func TestFloatsCompared(t *testing.T) {
	t.Parallel()
	heldWordEdges(t, impl.TFloat, []wordEdge{
		{"==", 0, minus, 1}, {"!=", 0, minus, 0}, {"<", minus, 0, 0}, {"<=", 0, minus, 1}, {">", 0, minus, 0}, {">=", minus, 0, 1},
		{"<", one | minus, one, 1}, {"<", one, one | minus, 0}, {"<", two | minus, one | minus, 1}, {">", two, one, 1}, {">", two | minus, one, 0},
		{"==", one, one, 1}, {"==", one, one + 1, 0}, {"!=", one, one + 1, 1}, {"<=", one, one, 1}, {">=", one, one, 1}, {"<=", two, one, 0}, {">=", one, two, 0},
		{"<", greatest, infinite, 1}, {"==", infinite, infinite, 1}, {">", infinite, infinite | minus, 1}, {"<", 1, 2, 1},
	})
	for _, pair := range [][2]uint32{{nan, nan}, {nan, one}, {one, nan}, {farNaN, farNaN}, {infinite, farNaN}, {nan, infinite | minus}, {0xffffffff, 0}} {
		a, b := pair[0], pair[1]
		heldWordEdges(t, impl.TFloat, []wordEdge{
			{"==", a, b, 0}, {"!=", a, b, 1}, {"<", a, b, 0}, {"<=", a, b, 0}, {">", a, b, 0}, {">=", a, b, 0},
		})
	}
}

func TestBoolsOfAnyWords(t *testing.T) {
	t.Parallel()
	heldWordEdges(t, impl.TBool, []wordEdge{
		{"&&", 0, 0, 0}, {"&&", 0, 1, 0}, {"&&", 1, 0, 0}, {"&&", 1, 1, 1}, {"&&", 2, 1, 1}, {"&&", minus, 0xffffffff, 1}, {"&&", 2, 4, 1}, {"&&", 7, 0, 0},
		{"||", 0, 0, 0}, {"||", 0, 1, 1}, {"||", 1, 0, 1}, {"||", 1, 1, 1}, {"||", 0, 2, 1}, {"||", minus, 0, 1}, {"||", 3, 5, 1},
		{"==", 0, 0, 1}, {"==", 1, 1, 1}, {"==", 0, 1, 0}, {"==", 1, 2, 0}, {"==", 2, 2, 1}, {"==", 0xffffffff, 0xffffffff, 1},
		{"!=", 0, 0, 0}, {"!=", 1, 0, 1}, {"!=", 1, 2, 1}, {"!=", 2, 2, 0}, {"!=", minus, 0, 1}, {"==", minus, 0, 0}, {"==", nan, nan, 1},
	})
}

// noOp: a sign that has no type with a kind.
func noOp(t *testing.T, op string, kind int) {
	t.Helper()
	for _, a := range []uint32{0, 1, 7, one, nan, minus, 0xffffffff} {
		for _, b := range []uint32{0, 1, 7, one, two, 0xffffffff} {
			if got := impl.OpWords(op, kind, a, b); got != 0 {
				t.Errorf("OpWords(%q, %d, %#x, %#x) = %#x", op, kind, a, b, got)
			}
		}
	}
}

func TestSignsWithoutAType(t *testing.T) {
	t.Parallel()
	for _, op := range strings.Fields("&& ||") {
		noOp(t, op, impl.TWhole)
	}
	for _, op := range strings.Fields("% & | ^ << >> && ||") {
		noOp(t, op, impl.TFloat)
	}
	for _, op := range strings.Fields("+ - * / % & | ^ << >> < <= > >=") {
		noOp(t, op, impl.TBool)
	}
	for _, kind := range kindsOfAll {
		if kind >= 1 && kind <= 3 {
			continue
		}
		for _, op := range slices.Concat(betweenSigns, wantSigns) {
			noOp(t, op, kind)
		}
	}
}

func TestTextsThatAreNoSign(t *testing.T) {
	t.Parallel()
	l := slices.Concat(wantCalls, wantWords, brokenRunes, []string{"", " ", " +", "+ ", "++", "+\x00", "!", "=", "(", ")", "[", ",", ";", "..", ":", "{", "}", "===", "<>", "=<", "x", "1", "**", "~", "＋"})
	for _, op := range l {
		for _, kind := range kindsOfAll {
			noOp(t, op, kind)
		}
	}
}

// callEdge: a call of words, and what comes of it.
type callEdge struct {
	name string
	args []uint32
	want uint32
}

func heldCallEdges(t *testing.T, kind int, l []callEdge) {
	t.Helper()
	for _, e := range l {
		if got := impl.CallWords(e.name, kind, e.args); got != e.want {
			t.Errorf("%s of %#x of kind %d is %#x, want %#x", e.name, e.args, kind, got, e.want)
		}
		heldCall(t, e.name, kind, e.args)
	}
}

func words6(l ...uint32) []uint32 { return l }

func TestCallsOfWholes(t *testing.T) {
	t.Parallel()
	least, most := minus, minus-1
	heldCallEdges(t, impl.TWhole, []callEdge{
		{"abs", words6(5), 5}, {"abs", words6(0), 0}, {"abs", words6(0xffffffff), 1}, {"abs", words6(least), least}, {"abs", words6(least + 1), most}, {"abs", words6(most), most},
		{"min", words6(3, 4), 3}, {"min", words6(4, 3), 3}, {"min", words6(0xffffffff, 1), 0xffffffff}, {"min", words6(1, 0xffffffff), 0xffffffff}, {"min", words6(least, most), least}, {"min", words6(2, 2), 2},
		{"max", words6(3, 4), 4}, {"max", words6(4, 3), 4}, {"max", words6(0xffffffff, 1), 1}, {"max", words6(1, 0xffffffff), 1}, {"max", words6(least, most), most},
		{"float", words6(3), 0x40400000}, {"float", words6(0xfffffffe), 0xc0000000}, {"float", words6(0), 0},
		{"int", words6(3), 3}, {"int", words6(least), least}, {"int", words6(nan), nan},
		{"fma", words6(1, 2, 3), 0}, {"sqrt", words6(4), 0}, {"fma", words6(one, one, one), 0}, {"sqrt", words6(one), 0},
	})
}

func TestCallsOfFloats(t *testing.T) {
	t.Parallel()
	heldCallEdges(t, impl.TFloat, []callEdge{
		{"abs", words6(one | minus), one}, {"abs", words6(one), one}, {"abs", words6(minus), 0}, {"abs", words6(0), 0}, {"abs", words6(infinite | minus), infinite}, {"abs", words6(1 | minus), 1},
		{"abs", words6(nan), nan}, {"abs", words6(nan | minus), nan}, {"abs", words6(farNaN), nan}, {"abs", words6(0x7f800001), nan},
		{"min", words6(one, two), one}, {"min", words6(two, one), one}, {"min", words6(one, one|minus), one | minus}, {"min", words6(infinite, greatest), greatest}, {"min", words6(infinite|minus, 0), infinite | minus},
		{"max", words6(one, two), two}, {"max", words6(two, one), two}, {"max", words6(one|minus, one), one}, {"max", words6(infinite, greatest), infinite}, {"max", words6(two|minus, one|minus), one | minus},
		{"min", words6(0, minus), 0}, {"min", words6(minus, 0), minus}, {"max", words6(0, minus), 0}, {"max", words6(minus, 0), minus}, // neither is less
		{"min", words6(nan, one), nan}, {"min", words6(one, nan), nan}, {"max", words6(farNaN, one), nan}, {"max", words6(one, farNaN), nan}, {"min", words6(farNaN, 0xffffffff), nan}, {"max", words6(nan, infinite), nan}, {"min", words6(infinite|minus, farNaN), nan},
		{"fma", words6(two, two, one), 0x40a00000}, {"fma", words6(one+1, one+1, one|minus), 0x34800000}, {"fma", words6(infinite, 0, one), nan}, {"fma", words6(0, one, minus), 0}, {"fma", words6(minus, one, minus), minus},
		{"sqrt", words6(0x40800000), two}, {"sqrt", words6(two), 0x3fb504f3}, {"sqrt", words6(minus), minus}, {"sqrt", words6(one | minus), nan}, {"sqrt", words6(infinite), infinite},
		{"float", words6(one), one}, {"float", words6(minus), minus}, {"float", words6(nan), nan},
		{"int", words6(threeHalves), 1}, {"int", words6(threeHalves | minus), 0xffffffff}, {"int", words6(infinite), minus - 1}, {"int", words6(nan), 0},
	})
}

// noCall: what is no call of words, or has other operands.
func noCall(t *testing.T, name string, kind int, args []uint32) {
	t.Helper()
	if got := impl.CallWords(name, kind, args); got != 0 {
		t.Errorf("CallWords(%q, %d, %#x) = %#x", name, kind, args, got)
	}
}

func TestTooFewAndTooManyArgs(t *testing.T) {
	t.Parallel()
	args := slices.Repeat([]uint32{two, one | minus, nan, 5}, 3)
	for _, name := range wantCalls {
		for _, kind := range kindsOfAll {
			for n := range args {
				if n != wantArity[name] {
					noCall(t, name, kind, args[:n])
				}
			}
			if kind != impl.TWhole && kind != impl.TFloat {
				noCall(t, name, kind, args[:wantArity[name]])
			}
			noCall(t, name, kind, nil)
			noCall(t, name, kind, []uint32{})
			noCall(t, name, kind, make([]uint32, 100000))
		}
	}
	for _, name := range strings.Fields("tid local group size") {
		for kind := range 4 {
			noCall(t, name, kind, nil)
			noCall(t, name, kind, []uint32{7})
		}
	}
}

func TestTextsThatAreNoCall(t *testing.T) {
	t.Parallel()
	args := []uint32{two, 7, one}
	for _, name := range slices.Concat(wantSigns, brokenRunes, []string{"", " abs", "abs ", "Abs", "ABS", "absent", "ab", "x", "bool", "let", "kernel", "none", "1", "min(", "größe"}) {
		for _, kind := range kindsOfAll {
			for n := range 4 {
				noCall(t, name, kind, args[:n])
			}
		}
	}
}

func TestWholesMadeFloats(t *testing.T) {
	t.Parallel()
	for _, e := range []struct {
		whole int64
		want  uint32
	}{
		{0, 0}, {1, one}, {-1, one | minus}, {2, two}, {-2, two | minus},
		{16777215, 0x4b7fffff}, {16777216, 0x4b800000}, {16777217, 0x4b800000}, {16777218, 0x4b800001}, {16777219, 0x4b800002}, {16777220, 0x4b800002}, // of two as near the even one
		{-16777217, 0xcb800000}, {-16777219, 0xcb800002},
		{33554434, 0x4c000000}, {33554435, 0x4c000001}, {33554438, 0x4c000002},
		{math.MaxInt32, 0x4f000000}, {math.MaxInt32 - 63, 0x4f000000}, {math.MaxInt32 - 64, 0x4effffff}, {math.MinInt32, 0xcf000000}, {math.MinInt32 + 1, 0xcf000000},
	} {
		if got := impl.ToFloat(uint32(e.whole)); got != e.want {
			t.Errorf("ToFloat(%d) = %#x, want %#x", e.whole, got, e.want)
		}
		heldMade(t, uint32(e.whole))
	}
}

func TestFloatsMadeWhole(t *testing.T) {
	t.Parallel()
	for _, e := range []struct {
		float uint32
		want  int64
	}{
		{0, 0}, {minus, 0}, {one, 1}, {one | minus, -1}, {one - 1, 0}, {(one - 1) | minus, 0}, {threeHalves, 1}, {threeHalves | minus, -1}, {0x403fffff, 2}, {0xc03fffff, -2}, {0xc0600000, -3}, {1, 0}, {1 | minus, 0},
		{0x4effffff, 2147483520}, {0x4f000000, math.MaxInt32}, {0x4f000001, math.MaxInt32}, {greatest, math.MaxInt32}, {infinite, math.MaxInt32},
		{0xceffffff, -2147483520}, {0xcf000000, math.MinInt32}, {0xcf000001, math.MinInt32}, {greatest | minus, math.MinInt32}, {infinite | minus, math.MinInt32},
		{nan, 0}, {nan | minus, 0}, {farNaN, 0}, {0x7f800001, 0},
	} {
		if got := impl.ToWhole(e.float); got != uint32(e.want) {
			t.Errorf("ToWhole(%#x) = %d, want %d", e.float, signed(got), e.want)
		}
		heldMade(t, e.float)
	}
}

// toldConst: the type's name and the value of an expression, as its type is
// read.
func toldConst(l []impl.Node) string {
	kind, word, ok := impl.ConstOf(l)
	switch {
	case !ok && (kind != 0 || word != 0):
		return "false with something beside it"
	case !ok:
		return "false"
	case kind == impl.TWhole:
		return "int " + strconv.FormatInt(signed(word), 10)
	case kind == impl.TBool:
		return "bool " + strconv.Itoa(int(word))
	}
	return impl.TypeName(kind) + " " + strconv.FormatUint(uint64(word), 16)
}

func TestConstantsWrittenOut(t *testing.T) {
	t.Parallel()
	for source, want := range map[string]string{
		"0": "int 0", "7": "int 7", "2147483647": "int 2147483647", "0.0": "float 0", "1.0": "float 3f800000", "0.1": "float 3dcccccd", "true": "bool 1", "false": "bool 0",
		"- 7": "int -7", "- 0": "int 0", "- - 7": "int 7", "- 1.0": "float bf800000", "- 0.0": "float 80000000", "! true": "bool 0", "! false": "bool 1", "! ! true": "bool 1",
		"1 + 2": "int 3", "3 - 2 * 4": "int -5", "2147483647 + 1": "int -2147483648", "- 2147483647 - 1": "int -2147483648", "- ( - 2147483647 - 1 )": "int -2147483648",
		"1 / 0": "int 0", "1 % 0": "int 0", "( 0 - 2147483647 - 1 ) / - 1": "int -2147483648", "- 7 / 2": "int -3", "- 7 % 2": "int -1",
		"1 << 33": "int 2", "- 8 >> 1": "int -4", "1 << - 1": "int -2147483648", "12 & 10 | 1 ^ 3": "int 10",
		"1 + 0.5": "float 3fc00000", "0.5 + 1": "float 3fc00000", "1 / 2": "int 0", "1 / 2.0": "float 3f000000", "16777217 + 0.0": "float 4b800000", "1.0 / 0": "float 7f800000", "1 / 0.0": "float 7f800000", "- 1 / 0.0": "float ff800000",
		"0.0 / 0.0": "float 7fc00000", "- ( 0.0 / 0.0 )": "float 7fc00000", "0.0 / 0.0 == 0.0 / 0.0": "bool 0", "0.0 / 0.0 != 1": "bool 1", "0.0 / 0.0 < 1": "bool 0",
		"1 == 1.0": "bool 1", "16777217 == 16777216.0": "bool 1", "16777217 == 16777216": "bool 0", "2147483647 == 214748364.0 * 10 + 8": "bool 1", "0.0 == - 0.0": "bool 1",
		"1 < 2": "bool 1", "2 <= 1": "bool 0", "1 > 0.5": "bool 1", "0.5 >= 1": "bool 0", "1 != 2": "bool 1", "true == true": "bool 1", "true != true": "bool 0", "true && false": "bool 0", "false || true": "bool 1", "true && ! false": "bool 1",
		"abs ( - 5 )": "int 5", "abs ( - 5.0 )": "float 40a00000", "abs ( 0 - 2147483647 - 1 )": "int -2147483648", "abs ( 0.0 / 0.0 )": "float 7fc00000",
		"min ( 1 , 2 )": "int 1", "max ( 1 , 2 )": "int 2", "min ( 1 , 2.0 )": "float 3f800000", "max ( 1.0 , 2 )": "float 40000000", "min ( 0.0 , - 0.0 )": "float 0", "min ( - 0.0 , 0.0 )": "float 80000000", "max ( 0 , 0.0 / 0.0 )": "float 7fc00000", "min ( - 0.0 , 0 )": "float 80000000",
		"fma ( 2 , 2 , 1 )": "float 40a00000", "fma ( 0.5 , 2 , 1 )": "float 40000000", "sqrt ( 4 )": "float 40000000", "sqrt ( 4.0 )": "float 40000000", "sqrt ( - 1 )": "float 7fc00000",
		"float ( 3 )": "float 40400000", "float ( 3.0 )": "float 40400000", "float ( 16777217 )": "float 4b800000", "int ( 3 )": "int 3", "int ( 3.999 )": "int 3", "int ( - 3.999 )": "int -3", "int ( 3000000.0 * 1000.0 )": "int 2147483647", "int ( - 3000000.0 * 1000.0 )": "int -2147483648", "int ( 0.0 / 0.0 )": "int 0", "int ( 1 / 0.0 )": "int 2147483647",
		"int ( 1.5 ) + int ( 1.5 )": "int 2", "min ( 1 , 2 ) == max ( 0 , 1 )": "bool 1",
	} {
		l := exprOf(strings.Fields(source)).nodes()
		if got := toldConst(l); got != want {
			t.Errorf("ConstOf(%s): %s, want %s", source, got, want)
		}
		heldConst(t, l)
	}
}

// noConst: nodes that have no value that is known ahead.
func noConst(t *testing.T, l []impl.Node) {
	t.Helper()
	if kind, word, ok := impl.ConstOf(l); ok || kind != 0 || word != 0 {
		t.Errorf("ConstOf(%v) = %d, %#x, %v", l, kind, word, ok)
	}
}

func TestExpressionsThatHangOnAThread(t *testing.T) {
	t.Parallel()
	for _, hanging := range []string{"x", "x [ 0 ]", "tid ( )", "local ( )", "group ( )", "size ( )"} {
		for _, around := range []string{"#", "- #", "1 + #", "# + 1", "abs ( # )", "min ( 1 , # )", "max ( # , 1 )", "fma ( 1 , 2 , # )", "sqrt ( # )", "float ( # )", "int ( # )", "( 1 + # ) * 0", "0 * - ( 1 - # )", "# == #", "0 & #", "true || 1 == #", "! ( 1 < # )"} {
			noConst(t, exprOf(strings.Fields(strings.ReplaceAll(around, "#", hanging))).nodes())
		}
	}
	noConst(t, exprOf(strings.Fields("x [ 1 + 2 ]")).nodes())
	noConst(t, exprOf(strings.Fields("true && x")).nodes())
	noConst(t, exprOf(strings.Fields("! x")).nodes())
}

func TestExpressionsWithoutAType(t *testing.T) {
	t.Parallel()
	for _, source := range []string{
		"- true", "! 1", "! 0.5", "1 + true", "true + true", "1 % 0.5", "0.5 << 1", "true & true", "1 && 1", "true || 1", "0.5 && 0.5", "true == 1", "0.5 != true", "true < false",
		"abs ( true )", "min ( 1 , true )", "max ( true , 1 )", "fma ( 1 , 2 , true )", "sqrt ( true )", "float ( true )", "int ( true )",
		"1 + ( 2 + true )", "( 1 == true ) == ( 1 == true )", "! ! 1", "- - true", "- ( 1 < 2 )", "int ( 1 < 2 )", "min ( - true , 1 )",
	} {
		l := exprOf(strings.Fields(source)).nodes()
		noConst(t, l)
		heldConst(t, l)
	}
}

func TestListsThatAreNoOneExpression(t *testing.T) {
	t.Parallel()
	for _, text := range []string{
		"1 1 0, 1 1 0", "1 1 0, 1 2 0, 7 + 2", "7 + 2, 1 1 0", "7 + 2", "7 + 2, 1 1 0, 1 2 0, 1 3 0", "7 + 3, 1 1 0, 1 2 0, 1 3 0", "7 + 1, 1 1 0", "7 + 0", "7 + -1, 1 1 0, 1 2 0",
		"6 - 0", "6 - 1", "6 - 2, 1 1 0, 1 2 0", "6 - 1, 1 1 0, 1 1 0", "6 + 1, 1 1 0", "6 ~ 1, 1 1 0", "6 1, 1 1 0", "7 ! 2, 3 true 0, 3 true 0", "7 = 2, 1 1 0, 1 1 0", "7 2, 1 1 0, 1 1 0", "7 .. 2, 1 1 0, 1 1 0",
		"1 1 1, 1 1 0", "2 0.5 1, 1 1 0", "3 true 1, 3 true 0", "1 1 -1", "1 0.5 0", "2 1 0", "1 01 0", "1 -1 0", "1 2147483648 0", "1 +1 0", "1 x 0", "1 0", "2 0. 0", "2 .5 0", "2 00.5 0", "2 1.0000000000 0", "2 1000000000.0 0", "3 1 0", "3 0", "3 True 0", "3 t 0", "3 false  true 0",
		"8 abs 0", "8 abs 2, 1 1 0, 1 1 0", "8 min 1, 1 1 0", "8 min 3, 1 1 0, 1 1 0, 1 1 0", "8 fma 2, 1 1 0, 1 1 0", "8 x 1, 1 1 0", "8 - 1, 1 1 0", "8 1, 1 1 0", "8 tid 0", "8 tid 1, 1 1 0", "8 size 0",
		"0 1 0", "4 1 0", "5 1 0", "9 x 1, 1 1 0", "10 x 1, 1 1 0", "11 x 2, 1 1 0, 1 1 0", "12 2, 3 true 0, 15 0", "14 0", "15 0", "15 1, 1 1 0", "16 k 1, 15 0", "17 n 0", "19 a 0", "21 1 0",
		"7 + 2, 9 x 1, 1 1 0, 1 1 0", "7 + 2, 15 0, 1 1 0", "6 - 1, 17 n 0",
	} {
		l := nodesOf(text)
		noConst(t, l)
		heldConst(t, l)
	}
	noConst(t, nil)
	noConst(t, []impl.Node{})
	noConst(t, []impl.Node{{}})
}

// Signs that may not stand there, with operands of every type.
func TestSignsThatMayNotStand(t *testing.T) {
	t.Parallel()
	for _, operand := range nodesOf("1 1 0, 2 0.5 0, 3 true 0") {
		for _, sign := range slices.Concat(wrongTexts, brokenRunes, []string{"--", "!!", "- ", " !"}) {
			if sign != "-" && sign != "!" {
				noConst(t, []impl.Node{{Kind: impl.NUnary, Text: sign, Kids: 1}, operand})
			}
			if !slices.Contains(betweenSigns, sign) {
				noConst(t, []impl.Node{{Kind: impl.NBinary, Text: sign, Kids: 2}, operand, operand})
			}
		}
	}
}

// sumOfOnes: a sum of so many ones, of 2 n - 1 nodes.
func sumOfOnes(n int) tree {
	t := tree{kind: impl.NWhole, text: "1"}
	for range n - 1 {
		t = tree{impl.NBinary, "+", []tree{t, {kind: impl.NWhole, text: "1"}}}
	}
	return t
}

func TestConstantsAtMaxNodes(t *testing.T) {
	t.Parallel()
	minusOf := func(t tree) tree { return tree{impl.NUnary, "-", []tree{t}} }
	for _, e := range []struct {
		t     tree
		nodes int
		want  string
	}{
		{sumOfOnes(125), 249, "int 125"}, {minusOf(sumOfOnes(125)), 250, "int -125"}, {sumOfOnes(126), 251, "false"}, {minusOf(sumOfOnes(126)), 252, "false"}, {minusOf(minusOf(sumOfOnes(125))), 251, "false"}, {sumOfOnes(5000), 9999, "false"},
	} {
		if l := e.t.nodes(); len(l) != e.nodes || toldConst(l) != e.want {
			t.Errorf("ConstOf of %d nodes: %s, want %s", len(l), toldConst(l), e.want)
		}
	}
	deep := tree{kind: impl.NWhole, text: "1"}
	right := deep
	for n := range 260 {
		want := "int " + strconv.Itoa(1-n%2*2)
		if n > 249 {
			want = "false"
		}
		if got := toldConst(deep.nodes()); got != want { // an expression may be as deep as it likes
			t.Errorf("%d signs ahead of 1: %s, want %s", n, got, want)
		}
		heldConst(t, right.nodes())
		deep = minusOf(deep)
		right = tree{impl.NBinary, "-", []tree{{kind: impl.NWhole, text: "1"}, right}}
	}
}

// heldFolds: statements, and what they are folded to, one behind the other.
func heldFolds(t *testing.T, l []string) {
	t.Helper()
	for i := 0; i < len(l); i += 2 {
		r := impl.ReadKernel(given(l[i]))
		if r.Code != 0 {
			t.Errorf("ReadKernel(%q) = %v", l[i], r)
		}
		folded := heldFold(t, r.Nodes)
		want := given(l[i+1])
		if got, ok := impl.ShowKernel(folded); !ok || got != want {
			t.Errorf("%q is folded to %q, want %q", l[i], got, want)
		}
	}
}

func TestFoldedToWholesAndBools(t *testing.T) {
	t.Parallel()
	heldFolds(t, []string{
		"let x = 1 + 2 ;", "let x = 3 ;",
		"let x = 3 - 8 ;", "let x = - 5 ;",
		"let x = 3 - 3 ;", "let x = 0 ;",
		"let x = 5 ;", "let x = 5 ;",
		"let x = true ;", "let x = true ;",
		"let x = - 5 ;", "let x = - 5 ;",
		"let x = - 0 ;", "let x = 0 ;",
		"let x = - - 5 ;", "let x = 5 ;",
		"let x = - - - 5 ;", "let x = - 5 ;",
		"let x = - - 0 ;", "let x = 0 ;",
		"let x = - ( 3 - 8 ) ;", "let x = 5 ;",
		"let x = - ( 3 - 3 ) ;", "let x = 0 ;",
		"let x = ! true ;", "let x = false ;",
		"let x = ! ! true ;", "let x = true ;",
		"let x = 1 < 2 ;", "let x = true ;",
		"let x = 1.5 < 1 ;", "let x = false ;",
		"let x = 0.0 / 0.0 == 0.0 ;", "let x = false ;",
		"let x = true && false || true ;", "let x = true ;",
		"let x = abs ( 3 - 8 ) ;", "let x = 5 ;",
		"let x = min ( 3 , - 8 ) ;", "let x = - 8 ;",
		"let x = int ( 2.75 ) ;", "let x = 2 ;",
		"let x = int ( - 2.75 ) ;", "let x = - 2 ;",
		"let x = int ( 7 ) ;", "let x = 7 ;",
		"let x = int ( sqrt ( 16 ) ) ;", "let x = 4 ;",
		"let x = 1 / 0 ;", "let x = 0 ;",
		"let x = 2147483647 + 2 ;", "let x = - 2147483647 ;",
		"let x = 2147483646 + 1 ;", "let x = 2147483647 ;",
	})
}

func TestFoldedFromTheLeavesOn(t *testing.T) {
	t.Parallel()
	heldFolds(t, []string{
		"let x = n + ( 1 + 2 ) ;", "let x = n + 3 ;",
		"let x = n + 1 + 2 ;", "let x = n + 1 + 2 ;",
		"let x = 1 + 2 + n ;", "let x = 3 + n ;",
		"let x = n * ( 3 - 8 ) ;", "let x = n * - 5 ;",
		"let x = n - ( 3 - 8 ) ;", "let x = n - - 5 ;",
		"let x = n * 0 ;", "let x = n * 0 ;",
		"let x = n - n ;", "let x = n - n ;",
		"let x = tid ( ) * ( 2 * 2 ) ;", "let x = tid ( ) * 4 ;",
		"let x = a [ 1 + 2 ] ;", "let x = a [ 3 ] ;",
		"let x = a [ a [ 2 * 3 ] + ( 1 - 2 ) ] ;", "let x = a [ a [ 6 ] + - 1 ] ;",
		"let x = abs ( n + ( 2 - 4 ) ) ;", "let x = abs ( n + - 2 ) ;",
		"let x = min ( 1 + 1 , max ( n , 2 + 2 ) ) ;", "let x = min ( 2 , max ( n , 4 ) ) ;",
		"let x = true && n < 1 + 1 ;", "let x = true && n < 2 ;",
		"let x = false && n < 1 ;", "let x = false && n < 1 ;",
		"let x = ! ( n == 1 + 1 ) ;", "let x = ! ( n == 2 ) ;",
		"let x = - ( n + ( 2 + 2 ) ) ;", "let x = - ( n + 4 ) ;",
		"let x = - n ;", "let x = - n ;",
	})
}

func TestFoldedInEveryStatement(t *testing.T) {
	t.Parallel()
	heldFolds(t, []string{
		"let x = 1 ; x = 2 + 2 ;", "let x = 1 ; x = 4 ;",
		"a [ 1 + 2 ] = 3 - 2 * 4 ;", "a [ 3 ] = - 5 ;",
		"b [ 1 + 2 ] = 3 - 2 * 4 ;", "b [ 3 ] = - 5 ;",
		"if 1 < 2 { a [ 0 ] = 1 + 1 ; }", "if true { a [ 0 ] = 2 ; }",
		"if 1 > 2 { a [ 0 ] = 1 + 1 ; } else { a [ 1 * 1 ] = 0 ; }", "if false { a [ 0 ] = 2 ; } else { a [ 1 ] = 0 ; }",
		"if n < 2 + 2 { } else { }", "if n < 4 { } else { }",
		"for i in 1 - 2 .. 3 * 3 { a [ i ] = i + 2 * 2 ; }", "for i in - 1 .. 9 { a [ i ] = i + 4 ; }",
		"for i in 0 .. 0 { } barrier ; let x = 1 == 1 ;", "for i in 0 .. 0 { } barrier ; let x = true ;",
		"let x = 1 + 1 ; if true { let y = 2 + 2 ; for j in 0 .. 1 + 1 { x = y * ( 3 * 3 ) ; } }", "let x = 2 ; if true { let y = 4 ; for j in 0 .. 2 { x = y * 9 ; } }",
		"let x = 1 ; let y = x + 1 ;", "let x = 1 ; let y = x + 1 ;",
	})
	for _, source := range []string{"kernel k ( ) { }", "kernel k ( int n ) { barrier ; }"} {
		l := impl.ReadKernel(source).Nodes
		if got := heldFold(t, l); !slices.Equal(got, l) || len(got) == 0 {
			t.Errorf("%q is folded to %v", source, got)
		}
	}
}

func TestFloatsStay(t *testing.T) {
	t.Parallel()
	heldFolds(t, []string{
		"let x = 0.5 ;", "let x = 0.5 ;",
		"let x = - 0.5 ;", "let x = - 0.5 ;",
		"let x = 0.5 + 0.5 ;", "let x = 0.5 + 0.5 ;",
		"let x = 1 + 2 + 0.5 ;", "let x = 3 + 0.5 ;",
		"let x = 0.5 + 1 + 2 ;", "let x = 0.5 + 1 + 2 ;",
		"let x = 0.5 * ( 1 + 2 ) ;", "let x = 0.5 * 3 ;",
		"let x = float ( 1 + 2 ) ;", "let x = float ( 3 ) ;",
		"let x = float ( 1 - 2 ) ;", "let x = float ( - 1 ) ;",
		"let x = sqrt ( 2 * 2 ) ;", "let x = sqrt ( 4 ) ;",
		"let x = fma ( 1 + 1 , 2 , 3 - 4 ) ;", "let x = fma ( 2 , 2 , - 1 ) ;",
		"let x = min ( 1 + 1 , 0.5 ) ;", "let x = min ( 2 , 0.5 ) ;",
		"let x = - ( 1 + 1 + 0.5 ) ;", "let x = - ( 2 + 0.5 ) ;",
		"let x = abs ( - 0.5 ) ;", "let x = abs ( - 0.5 ) ;",
		"b [ 0 ] = 1.0 / 0.0 ;", "b [ 0 ] = 1.0 / 0.0 ;",
		"b [ 0 ] = 1 / 2 ;", "b [ 0 ] = 0 ;",
		"let x = 0.5 + 0.5 == 1 ;", "let x = true ;",
		"let x = int ( 0.5 + 0.5 ) ;", "let x = 1 ;",
		"let x = 0.5 ; x = 1 + 1 ;", "let x = 0.5 ; x = 2 ;",
	})
}

func TestTheLeastWholeNumberStays(t *testing.T) {
	t.Parallel()
	heldFolds(t, []string{
		"let x = - 2147483647 - 1 ;", "let x = - 2147483647 - 1 ;",
		"let x = 0 - 2147483647 - 1 ;", "let x = - 2147483647 - 1 ;",
		"let x = 2147483647 + 1 ;", "let x = 2147483647 + 1 ;",
		"let x = ( 2147483646 + 1 ) + ( 2 - 1 ) ;", "let x = 2147483647 + 1 ;",
		"let x = 1 << 31 ;", "let x = 1 << 31 ;",
		"let x = 1 << 30 + 1 ;", "let x = 1 << 31 ;",
		"let x = 1 << - 1 ;", "let x = 1 << - 1 ;",
		"let x = 65536 * ( 16384 + 16384 ) ;", "let x = 65536 * 32768 ;",
		"let x = - ( 1 << 31 ) ;", "let x = - ( 1 << 31 ) ;",
		"let x = abs ( 1 << 31 ) ;", "let x = abs ( 1 << 31 ) ;",
		"let x = abs ( 1 << 30 + 1 ) ;", "let x = abs ( 1 << 31 ) ;",
		"let x = ( 1 << 31 ) + 1 ;", "let x = - 2147483647 ;",
		"let x = ( 1 << 31 ) - 1 ;", "let x = 2147483647 ;",
		"let x = ( 1 << 31 ) / - 1 ;", "let x = ( 1 << 31 ) / - 1 ;",
		"let x = ( 1 << 31 ) % - 1 ;", "let x = 0 ;",
		"let x = ( 1 << 31 ) < 0 ;", "let x = true ;",
		"let x = n + ( 1 << 31 ) ;", "let x = n + ( 1 << 31 ) ;",
		"let x = int ( - 3000000.0 * 1000 ) ;", "let x = int ( - 3000000.0 * 1000 ) ;",
		"let x = int ( - 3000000.0 * ( 500 + 500 ) ) ;", "let x = int ( - 3000000.0 * 1000 ) ;",
		"let x = min ( 1 << 31 , 2 + 2 ) ;", "let x = min ( 1 << 31 , 4 ) ;",
		"let x = max ( 1 << 31 , 2 + 2 ) ;", "let x = 4 ;",
		"let x = float ( 1 << 31 ) ;", "let x = float ( 1 << 31 ) ;",
	})
}

// nested: statements in so many blocks of ifs.
func nested(blocks int, statements string) string {
	return strings.Repeat("if n == 1 { ", blocks) + statements + strings.Repeat(" }", blocks)
}

// A sign ahead opens one more than a sign between two: where that is too deep
// the kernel is as it was, in all its parts.
func TestFoldedTooDeep(t *testing.T) {
	t.Parallel()
	for blocks := range 10 {
		was, folded := nested(blocks, "let x = 3 - 8 ;"), nested(blocks, "let x = - 5 ;")
		ahead, also := "let y = 1 + 1 ;", "let y = 2 ;"
		if blocks == 9 {
			folded, also = was, ahead
		}
		heldFolds(t, []string{
			was, folded,
			ahead + " " + was, also + " " + folded,
			was + " " + ahead, folded + " " + also,
			nested(blocks, "let x = 1 + 1 ;"), nested(blocks, "let x = 2 ;"),
		})
	}
	heldFolds(t, []string{
		nested(8, "a [ 3 - 8 ] = 0 ;"), nested(8, "a [ 3 - 8 ] = 0 ;"),
		nested(7, "a [ 3 - 8 ] = 0 ;"), nested(7, "a [ - 5 ] = 0 ;"),
		nested(8, "a [ 3 + 8 ] = 0 ;"), nested(8, "a [ 11 ] = 0 ;"),
		nested(8, "let x = n * ( 3 - 8 ) ;"), nested(8, "let x = n * - 5 ;"),
		nested(8, "let x = n - ( 3 - 8 ) ; let y = abs ( 1 - 2 ) ;"), nested(8, "let x = n - - 5 ; let y = 1 ;"),
		nested(8, "let x = abs ( n - 3 ) * ( 1 - 2 ) ;"), nested(8, "let x = abs ( n - 3 ) * - 1 ;"),
		nested(8, "let x = n * abs ( 1 - 2 - n ) ;"), nested(8, "let x = n * abs ( 1 - 2 - n ) ;"),
		nested(9, "let x = n + 1 << 1 - 2 ;"), nested(9, "let x = n + 1 << 1 - 2 ;"),
	})
}

// noFold: a list without types.
func noFold(t *testing.T, l []impl.Node) {
	t.Helper()
	if got, ok := impl.FoldKernel(l); ok || len(got) > 0 {
		t.Errorf("FoldKernel(%v) = %v, %v", l, got, ok)
	}
}

func TestListsWithoutTypesAreNotFolded(t *testing.T) {
	t.Parallel()
	noFold(t, nil)
	noFold(t, []impl.Node{})
	noFold(t, []impl.Node{{}})
	for _, statements := range []string{"let x = q ;", "let n = 1 + 2 ;", "let x = 1 + true ;", "n = 1 + 2 ;", "if true { barrier ; }", "if 1 + 2 { }", "for i in 0.5 .. 1 + 1 { }", "a [ 0 ] = 0.5 ; a [ 0 ] = 1 + 1 ;", "let x = a + 1 ;"} {
		r := impl.ReadKernel(given(statements))
		if r.Code != 0 || impl.TypeKernel(r.Nodes).Code == 0 {
			t.Errorf("%q: %v", statements, r)
		}
		noFold(t, r.Nodes)
	}
	for _, text := range []string{"1 1 0", "7 + 2, 1 1 0, 1 2 0", "15 0", "16 k 0", "16 k 1", "16 k 1, 15 0, 14 0", "16 k 2, 15 0", "9 x 1, 1 1 0", "16 1, 15 0", "16 let 1, 15 0"} {
		noFold(t, nodesOf(text))
		heldFold(t, nodesOf(text))
	}
}
