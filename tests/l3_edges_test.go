package tests

import (
	"strconv"
	"strings"
	"testing"

	"loop.example/g00053/impl"
)

// The edges that chapter 3 names, with their tokens written out.

var (
	kindNames = []string{"none", "name", "whole", "float", "sign", "word"}
	codeNames = []string{"none", "LexLong", "LexRune", "LexName", "LexNumber", "LexMany"}
)

// told: what was read, as a text: kind and text of each token, or the fault.
func told(r impl.Lexed) string {
	if r.Code != 0 {
		return codeNames[r.Code] + " at " + strconv.Itoa(r.At)
	}
	var l []string
	for _, token := range r.Tokens {
		l = append(l, kindNames[token.Kind]+" "+token.Text)
	}
	return strings.Join(l, ", ")
}

// heldTold: a source and what is told of it, one behind the other.
func heldTold(t *testing.T, l []string) {
	t.Helper()
	for i := 0; i < len(l); i += 2 {
		r := impl.ReadTokens(l[i])
		if got := told(r); got != l[i+1] {
			t.Errorf("ReadTokens(%q): %s, want %s", l[i], got, l[i+1])
		}
		if r.Code != 0 && len(r.Tokens) != 0 || r.Code == 0 && r.At != 0 {
			t.Errorf("ReadTokens(%q): %v", l[i], r)
		}
		for _, token := range r.Tokens {
			if !strings.HasPrefix(l[i][token.At:], token.Text) {
				t.Errorf("ReadTokens(%q): %v does not stand at its place", l[i], token)
			}
		}
	}
}

func TestLongestSign(t *testing.T) {
	t.Parallel()
	heldTold(t, []string{
		"<", "sign <",
		"<<", "sign <<",
		"<=", "sign <=",
		"<<<", "sign <<, sign <",
		"<<=", "sign <<, sign =",
		"<==", "sign <=, sign =",
		"<=<", "sign <=, sign <",
		"< <", "sign <, sign <",
		"< =", "sign <, sign =",
		"<>", "sign <, sign >",
		">>>", "sign >>, sign >",
		">>=", "sign >>, sign =",
		">=>", "sign >=, sign >",
		"=>", "sign =, sign >",
		"=<", "sign =, sign <",
		"===", "sign ==, sign =",
		"!==", "sign !=, sign =",
		"!!=", "sign !, sign !=",
		"=!=", "sign =, sign !=",
		"&", "sign &",
		"&&", "sign &&",
		"&&&", "sign &&, sign &",
		"& &", "sign &, sign &",
		"|||", "sign ||, sign |",
		"&|", "sign &, sign |",
		"{}[]()", "sign {, sign }, sign [, sign ], sign (, sign )",
		"+-*/%^,:;", "sign +, sign -, sign *, sign /, sign %, sign ^, sign ,, sign :, sign ;",
		"--", "sign -, sign -",
		"-1", "sign -, whole 1",
		"~", "LexRune at 0",
		"+~", "LexRune at 1",
	})
}

func TestPoints(t *testing.T) {
	t.Parallel()
	heldTold(t, []string{
		".", "LexRune at 0",
		"..", "sign ..",
		"...", "LexRune at 2",
		"....", "sign .., sign ..",
		".....", "LexRune at 4",
		". .", "LexRune at 0",
		"1.5", "float 1.5",
		"1.", "LexRune at 1",
		"1..", "whole 1, sign ..",
		"1..5", "whole 1, sign .., whole 5",
		"1...5", "LexRune at 3",
		"1....5", "whole 1, sign .., sign .., whole 5",
		"1.5.5", "LexRune at 3",
		"1.5..5", "float 1.5, sign .., whole 5",
		"1.5..5.5", "float 1.5, sign .., float 5.5",
		"1..5.5", "whole 1, sign .., float 5.5",
		"1.5...5", "LexRune at 5",
		"1.x", "LexRune at 1",
		"1 .5", "LexRune at 2",
		"1. 5", "LexRune at 1",
		".5", "LexRune at 0",
		"..5", "sign .., whole 5",
		"a..b", "name a, sign .., name b",
		"a.b", "LexRune at 1",
		"01..5", "LexNumber at 0",
		"1..05", "LexNumber at 3",
		"1234567890..2", "whole 1234567890, sign .., whole 2",
		"2147483648..2", "LexNumber at 0",
	})
}

func TestComments(t *testing.T) {
	t.Parallel()
	heldTold(t, []string{
		"/", "sign /",
		"//", "",
		"///", "",
		"/ /", "sign /, sign /",
		"/\n/", "sign /, sign /",
		"/*/", "sign /, sign *, sign /",
		"*//", "sign *",
		"a/b", "name a, sign /, name b",
		"a//b", "name a",
		"a/ /b", "name a, sign /, sign /, name b",
		"a//b\nc", "name a, name c",
		"a//\nc", "name a, name c",
		"a//\n", "name a",
		"a//\n\n//", "name a",
		"a//b\n//c\nd", "name a, name d",
		"a // b // c\n/", "name a, sign /",
		"// # \x00 \r \xff 01 .\na", "name a",
		"// \xff", "",
		"//\r", "",
		"//\r\n#", "LexRune at 4",
		"1//2\n3", "whole 1, whole 3",
		"1.//2\n3", "LexRune at 1",
		"1.5//2", "float 1.5",
		"</", "sign <, sign /",
		"<//", "sign <",
	})
}

func TestBlanksAndOtherBytes(t *testing.T) {
	t.Parallel()
	heldTold(t, []string{
		"", "",
		" ", "",
		" \t\n", "",
		"\ta\n\nb ", "name a, name b",
		"a\rb", "LexRune at 1",
		"a\r\nb", "LexRune at 1",
		"\r", "LexRune at 0",
		"\x00", "LexRune at 0",
		"a\x00", "LexRune at 1",
		"a \x00b", "LexRune at 2",
		"\v", "LexRune at 0",
		"\f", "LexRune at 0",
		"\x1f", "LexRune at 0",
		"\x7f", "LexRune at 0",
		"a#01", "LexRune at 1",
		"01#", "LexNumber at 0",
		"\"a\"", "LexRune at 0",
		"a'", "LexRune at 1",
		"@ a", "LexRune at 0",
		"a?b:c", "LexRune at 1",
		"a\u00a0b", "name a\u00a0b",
		"\ufefflet", "name \ufefflet",
	})
}

func TestNamesAndWords(t *testing.T) {
	t.Parallel()
	heldTold(t, []string{
		"if", "word if",
		"iff", "name iff",
		"i", "name i",
		"if1", "name if1",
		"if_", "name if_",
		"_if", "name _if",
		"If", "name If",
		"IF", "name IF",
		"ifé", "name ifé",
		"éif", "name éif",
		"in int", "word in, word int",
		"inint", "name inint",
		"1if", "whole 1, word if",
		"1a2", "whole 1, name a2",
		"1e5", "whole 1, name e5",
		"1.5e3", "float 1.5, name e3",
		"0x1F", "whole 0, name x1F",
		"1_000", "whole 1, name _000",
		"if(a)", "word if, sign (, name a, sign )",
		"_", "name _",
		"__0", "name __0",
		"größe=1", "name größe, sign =, whole 1",
		"größe größe", "name größe, name größe",
		"名1", "name 名1",
	})
	for _, w := range wantWords {
		heldTold(t, []string{w, "word " + w, w + "x", "name " + w + "x", "x" + w, "name x" + w, w + "/" + w, "word " + w + ", sign /, word " + w})
		if impl.GoodName(w) || !impl.GoodName(w+"0") || !impl.GoodName("_"+w) {
			t.Errorf("names like %s", w)
		}
	}
}

func TestNumbers(t *testing.T) {
	t.Parallel()
	nine, ten := strings.Repeat("9", 9), strings.Repeat("1", 10)
	heldTold(t, []string{
		"0", "whole 0",
		"7", "whole 7",
		"10", "whole 10",
		"2147483647", "whole 2147483647",
		"2147483648", "LexNumber at 0",
		"a 2147483648", "LexNumber at 2",
		"-2147483648", "LexNumber at 1",
		"9999999999", "LexNumber at 0",
		"10000000000", "LexNumber at 0",
		"4294967296", "LexNumber at 0",
		"18446744073709551616", "LexNumber at 0",
		"18446744073709551617", "LexNumber at 0",
		strings.Repeat("1", 2000), "LexNumber at 0",
		nine, "whole " + nine,
		nine + "." + nine, "float " + nine + "." + nine,
		"1." + nine, "float 1." + nine,
		nine + ".1", "float " + nine + ".1",
		ten, "whole " + ten,
		ten + ".1", "LexNumber at 0",
		"1." + ten, "LexNumber at 0",
		"1.0000000000", "LexNumber at 0",
		"1.000000000", "float 1.000000000",
		"(" + ten + "." + ten, "LexNumber at 1",
		"2147483647.5", "LexNumber at 0",
		"2147483648.5", "LexNumber at 0",
		"00", "LexNumber at 0",
		"01", "LexNumber at 0",
		"000", "LexNumber at 0",
		"0a", "whole 0, name a",
		"0 0", "whole 0, whole 0",
		"0.0", "float 0.0",
		"0.00", "float 0.00",
		"0.10", "float 0.10",
		"00.0", "LexNumber at 0",
		"00.5", "LexNumber at 0",
		"01.5", "LexNumber at 0",
		"10.01", "float 10.01",
		"0123456789.5", "LexNumber at 0",
		"012345678.5", "LexNumber at 0",
	})
}

// Broken runes alone, within a name and at its end, and behind all else.
func TestBrokenRunes(t *testing.T) {
	t.Parallel()
	twenty := strings.Repeat("é", 20)
	for _, s := range brokenRunes {
		heldTold(t, []string{
			s, "LexRune at 0",
			"ab" + s, "LexRune at 2",
			"ab" + s + "cd", "LexRune at 2",
			s + "a", "LexRune at 0",
			"é" + s, "LexRune at 2",
			"a \t" + s + " b", "LexRune at 3",
			"if" + s, "LexRune at 2",
			"12" + s, "LexRune at 2",
			"1." + s, "LexRune at 1",
			"1.5" + s, "LexRune at 3",
			"01" + s, "LexNumber at 0",
			"<" + s, "LexRune at 1",
			"/" + s, "LexRune at 1",
			"//" + s, "",
			"//" + s + "\na", "name a",
			twenty + s, "LexRune at 40",
			twenty + "a" + s, "LexName at 0",
			s + " 01", "LexRune at 0",
		})
		for _, name := range []string{s, "ab" + s, "ab" + s + "cd", s + "a", "é" + s, twenty + s, "\ufffd" + s} {
			if impl.GoodName(name) {
				t.Errorf("GoodName(%q)", name)
			}
		}
	}
}

func TestWholeRunes(t *testing.T) {
	t.Parallel()
	for _, s := range wholeRunes {
		heldTold(t, []string{
			s, "name " + s,
			"ab" + s, "name ab" + s,
			s + "1" + s, "name " + s + "1" + s,
			"1" + s, "whole 1, name " + s,
			"\ufffd" + s, "name \ufffd" + s,
			s[:len(s)-1], "LexRune at 0",
			"a" + s[:len(s)-1], "LexRune at 1",
			s[1:], "LexRune at 0",
			s + s[1:], "LexRune at " + strconv.Itoa(len(s)),
		})
		if !impl.GoodName(s) || !impl.GoodName("_"+s) {
			t.Errorf("GoodName(%q)", s)
		}
	}
}

func TestLongSources(t *testing.T) {
	t.Parallel()
	blanks := strings.Repeat(" ", 1999)
	heldTold(t, []string{
		blanks + " ", "",
		blanks + "  ", "LexLong at 0",
		blanks + "a", "name a",
		blanks + "a ", "LexLong at 0",
		blanks + "\x00", "LexRune at 1999",
		"\x00" + blanks + "a", "LexLong at 0",
		"01" + blanks, "LexLong at 0",
		"//" + blanks[1:], "",
		"//" + blanks, "LexLong at 0",
		strings.Repeat("é", 1000), "LexName at 0",
		strings.Repeat("é", 1001), "LexLong at 0",
		strings.Repeat("x", 100000), "LexLong at 0",
	})
}

func TestManyTokens(t *testing.T) {
	t.Parallel()
	full := strings.Repeat("+", 400)
	if r := impl.ReadTokens(full); r.Code != 0 || len(r.Tokens) != 400 || r.Tokens[399] != (impl.Token{Kind: impl.TokSign, Text: "+", At: 399}) {
		t.Errorf("%d tokens, %d", len(r.Tokens), r.Code)
	}
	for _, behind := range []string{" ", "\n\t", "//", "// a b\n ", "//\xff"} {
		if r := impl.ReadTokens(full + behind); r.Code != 0 || len(r.Tokens) != 400 {
			t.Errorf("%q behind: %d tokens, %d", behind, len(r.Tokens), r.Code)
		}
	}
	heldTold(t, []string{
		full + "+", "LexMany at 400",
		full + " \n a b", "LexMany at 403",
		full + "//\nif", "LexMany at 403",
		full + "1.5", "LexMany at 400",
		full + "<<01", "LexMany at 400",
		full + strings.Repeat("x", 20), "LexMany at 400",
		full + strings.Repeat("x", 21), "LexName at 400",
		full + " 01", "LexNumber at 401",
		full + "2147483648", "LexNumber at 400",
		full + "1.0000000000", "LexNumber at 400",
		full + "\x00", "LexRune at 400",
		full + " .", "LexRune at 401",
		full + "\xff", "LexRune at 400",
		full + "x\xff", "LexMany at 400",
		full + "1.", "LexMany at 400",
		full + "...", "LexMany at 400",
		full + strings.Repeat("x", 21) + "\xff", "LexName at 400",
		full + "a \x00", "LexMany at 400",
	})
}

func TestLongNames(t *testing.T) {
	t.Parallel()
	for _, r := range []string{"a", "Z", "_", "é", "€", "\ufffd", "😀"} {
		twenty := strings.Repeat(r, 20)
		heldTold(t, []string{
			twenty, "name " + twenty,
			twenty + r, "LexName at 0",
			twenty + "1", "LexName at 0",
			twenty + " " + r, "name " + twenty + ", name " + r,
			"\n " + twenty + twenty, "LexName at 2",
			twenty[len(r):] + "9", "name " + twenty[len(r):] + "9",
			twenty[len(r):] + "10", "LexName at 0",
			"1" + twenty, "whole 1, name " + twenty,
		})
		if !impl.GoodName(twenty) || impl.GoodName(twenty+r) || impl.GoodName("0"+r) || impl.GoodName(twenty+"0") {
			t.Errorf("GoodName of %q", r)
		}
	}
}

func TestGoodNameEdges(t *testing.T) {
	t.Parallel()
	for _, s := range []string{"_", "a", "Z9", "_0", "é", "If", "tru", "trues", "barrier_", "in0", "\ufffd", "a\u0301"} {
		if !impl.GoodName(s) {
			t.Errorf("GoodName(%q) is false", s)
		}
	}
	for _, s := range []string{"", "0", "0a", "9_", "a b", " a", "a ", "a\n", "a-b", "a.b", "..", "+", "é ", "a\x00", "a//", "\xff", "a\xff", "true", "a\r"} {
		if impl.GoodName(s) {
			t.Errorf("GoodName(%q)", s)
		}
	}
}

func TestFloatOfEdges(t *testing.T) {
	t.Parallel()
	for text, want := range map[string]uint32{
		"0.0": 0, "0.000000000": 0, "0.00": 0,
		"0.000000001": 0x3089705f, "0.1": 1036831949, "0.5": 0x3f000000, "0.25": 0x3e800000,
		"1.0": one, "1.000000000": one, "1.5": 0x3fc00000, "2.0": 0x40000000, "10.0": 0x41200000, "3.0": 0x40400000,
		"16777215.0": 0x4b7fffff, "16777216.0": 0x4b800000, "16777217.0": 0x4b800000, "16777217.000000001": 0x4b800001,
		"16777216.999999999": 0x4b800000, "16777218.999999999": 0x4b800001, "16777219.0": 0x4b800002, "16777219.000000001": 0x4b800002,
		"16777215.5": 0x4b800000, "16777215.499999999": 0x4b7fffff,
		"8388608.5": 0x4b000000, "8388609.5": 0x4b000002, "8388608.500000001": 0x4b000001, "8388609.499999999": 0x4b000001,
		"4194304.25": 0x4a800000, "4194304.75": 0x4a800002,
		"32768.001953125": 0x47000000, "32768.001953126": 0x47000001, "32768.001953124": 0x47000000, "32768.005859375": 0x47000002, "32768.005859374": 0x47000001,
		"33554434.0": 0x4c000000, "33554434.000000001": 0x4c000001, "33554438.0": 0x4c000002,
		"999999999.999999999": 0x4e6e6b28, "999999999.0": 0x4e6e6b28, "999999968.0": 0x4e6e6b28, "999999967.999999999": 0x4e6e6b27,
	} {
		if got, ok := impl.FloatOf(text); !ok || got != want {
			t.Errorf("FloatOf(%q) = %#x, %v, want %#x", text, got, ok, want)
		}
	}
}
