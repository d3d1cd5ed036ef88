package tests

import (
	"math/big"
	"slices"
	"strconv"
	"strings"
	"testing"
	"unicode/utf8"

	"loop.example/g00053/impl"
)

// Chapter 3 held against the other way of l3_oracle_test.go.

func sameLexed(a, b impl.Lexed) bool {
	return a.Code == b.Code && a.At == b.At && slices.Equal(a.Tokens, b.Tokens)
}

func heldSource(t *testing.T, source string) {
	t.Helper()
	if got, want := impl.ReadTokens(source), wantLexed(source); !sameLexed(got, want) {
		t.Errorf("ReadTokens(%q) = %v, want %v", source, got, want)
	}
}

func TestWordsAndSigns(t *testing.T) {
	t.Parallel()
	if got := impl.Words(); !slices.Equal(got, wantWords) || len(got) != 13 {
		t.Errorf("words: %q", got)
	}
	if got := impl.Signs(); !slices.Equal(got, wantSigns) || len(got) != 30 {
		t.Errorf("signs: %q", got)
	}
	for _, l := range [][]string{impl.Words(), impl.Signs()} {
		for i := 1; i < len(l); i++ {
			if l[i-1] >= l[i] {
				t.Errorf("%q is not ahead of %q", l[i-1], l[i])
			}
		}
	}
}

func TestReadsEveryPairOfBytes(t *testing.T) {
	t.Parallel()
	heldSource(t, "")
	for a := range 256 {
		heldSource(t, string([]byte{byte(a)}))
		for b := range 256 {
			heldSource(t, string([]byte{byte(a), byte(b)}))
			heldSource(t, string([]byte{'x', byte(a), byte(b)}))
		}
	}
}

func TestReadsEveryFourOfSomeBytes(t *testing.T) {
	t.Parallel()
	some := "a0.!</=&| \n_\xc3\xa9"
	for i := range len(some) * len(some) * len(some) * len(some) {
		var b [4]byte
		for k := range b {
			b[k] = some[i%len(some)]
			i /= len(some)
		}
		heldSource(t, string(b[:]))
	}
}

func TestReadsEveryPairOfPieces(t *testing.T) {
	t.Parallel()
	for _, a := range pieces {
		for _, b := range pieces {
			heldSource(t, a+b)
			heldSource(t, a+" "+b)
		}
	}
}

func TestReadsManyPieces(t *testing.T) {
	t.Parallel()
	c := newChance(41)
	for n := range 20000 {
		heldSource(t, c.source(n%10))
	}
}

func TestReadsTokensWithAndWithoutBlanks(t *testing.T) {
	t.Parallel()
	c := newChance(42)
	for n := range 3000 {
		var b strings.Builder
		for _, token := range c.tokens(n % 30) {
			b.WriteString(token.Text)
			b.WriteString([...]string{"", "", " ", "\n", "\t\t", "//\n", "// a 01 \x80\n"}[c.Intn(7)])
		}
		heldSource(t, b.String())
	}
}

func TestReadsAnyBytes(t *testing.T) {
	t.Parallel()
	c := newChance(43)
	for range 20000 {
		b := make([]byte, c.Intn(12))
		for i := range b {
			b[i] = byte(c.Uint32())
		}
		heldSource(t, string(b))
	}
}

// Each rune alone, with a letter on both sides, and cut off by a byte.
func TestReadsEveryRune(t *testing.T) {
	t.Parallel()
	for r := rune(0); r <= utf8.MaxRune; r++ {
		if r >= 0x3000 && r%61 != 0 {
			continue
		}
		s := string(r)
		heldSource(t, s)
		heldSource(t, "a"+s+"b")
		heldSource(t, "a"+s[:len(s)-1])
	}
}

func wantName(s string) bool {
	return kindOfText(s) == impl.TokName && faultOfText(impl.TokName, s) == 0
}

func TestGoodName(t *testing.T) {
	t.Parallel()
	c := newChance(44)
	names := slices.Concat(pieces, brokenRunes, wholeRunes, []string{""})
	for range 5000 {
		names = append(names, c.name(), c.name()+c.piece(), c.piece()+c.name(), c.source(c.Intn(5)))
	}
	good := 0
	for _, s := range names {
		if got := impl.GoodName(s); got != wantName(s) {
			t.Errorf("GoodName(%q) = %v", s, got)
		} else if got {
			good++
		}
	}
	if good < 5000 {
		t.Errorf("only %d good names", good)
	}
}

func heldFloat(t *testing.T, text string) {
	t.Helper()
	if got, ok := impl.FloatOf(text); !ok || got != wantFloat(text) {
		t.Errorf("FloatOf(%q) = %#x, %v, want %#x", text, got, ok, wantFloat(text))
	}
}

func TestFloatOf(t *testing.T) {
	t.Parallel()
	c := newChance(45)
	for range 200000 {
		heldFloat(t, c.floatText())
	}
	for n := range 10000 {
		heldFloat(t, "0."+strconv.Itoa(n))
		heldFloat(t, strconv.Itoa(n)+".0")
		heldFloat(t, "0."+strings.Repeat("0", 9-len(strconv.Itoa(n)))+strconv.Itoa(n))
	}
}

// Just between two words, and a billionth below and above: from 2^15 to 2^29
// the middle has 9 digits behind its point at most.
func TestFloatOfBetweenTwo(t *testing.T) {
	t.Parallel()
	c := newChance(46)
	least := big.NewRat(1, 1000000000)
	for range 30000 {
		w := uint32(127+15+c.Intn(14))<<23 | c.Uint32()>>9
		a, _ := new(big.Rat).SetString(strconv.FormatFloat(float(w), 'f', -1, 64))
		b, _ := new(big.Rat).SetString(strconv.FormatFloat(float(w+1), 'f', -1, 64))
		middle := new(big.Rat).Add(a, b)
		middle.Mul(middle, big.NewRat(1, 2))
		text := middle.FloatString(9)
		if len(text) > 19 {
			continue // 10 digits ahead of the point
		}
		even := w + w%2
		if got, ok := impl.FloatOf(text); !ok || got != even {
			t.Errorf("FloatOf(%q) = %#x, %v, want %#x", text, got, ok, even)
		}
		if got, ok := impl.FloatOf(new(big.Rat).Sub(middle, least).FloatString(9)); !ok || got != w {
			t.Errorf("below %q: %#x, %v, want %#x", text, got, ok, w)
		}
		if got, ok := impl.FloatOf(new(big.Rat).Add(middle, least).FloatString(9)); !ok || got != w+1 {
			t.Errorf("above %q: %#x, %v, want %#x", text, got, ok, w+1)
		}
	}
}
