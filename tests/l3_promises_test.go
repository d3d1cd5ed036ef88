package tests

import (
	"math"
	"slices"
	"strconv"
	"strings"
	"testing"
	"unsafe"

	"loop.example/g00053/impl"
)

// sameTokens: whether Kinds and Texts are the same.
func sameTokens(a, b []impl.Token) bool {
	return slices.EqualFunc(a, b, func(x, y impl.Token) bool { return x.Kind == y.Kind && x.Text == y.Text })
}

// textsOf: the Texts with one blank between each two.
func textsOf(l []impl.Token) string {
	var texts []string
	for _, token := range l {
		texts = append(texts, token.Text)
	}
	return strings.Join(texts, " ")
}

// comesBack: tokens that may be have their text, and come back from it.
func comesBack(t *testing.T, l []impl.Token) {
	t.Helper()
	text, ok := impl.TokensText(l)
	if !ok || text != textsOf(l) {
		t.Errorf("the text of %v is %q, %v", l, text, ok)
	}
	if len(text) > impl.MaxSource {
		return
	}
	if r := impl.ReadTokens(text); r.Code != 0 || !sameTokens(r.Tokens, l) {
		t.Errorf("%v come back from %q as %v", l, text, r)
	}
}

// allTokens: every word, every sign, and edges of the other kinds.
func allTokens() []impl.Token {
	var l []impl.Token
	add := func(kind int, texts ...string) {
		for _, text := range texts {
			l = append(l, impl.Token{Kind: kind, Text: text})
		}
	}
	add(impl.TokWord, wantWords...)
	add(impl.TokSign, wantSigns...)
	add(impl.TokName, "a", "_", "x1", "If", "ifs", strings.Repeat("z", 20), strings.Repeat("😀", 20), "größe", "\ufffd", "\u00a0")
	add(impl.TokName, wholeRunes...)
	add(impl.TokWhole, "0", "1", "10", "999999999", "1234567890", "2147483647")
	add(impl.TokFloat, "0.0", "0.5", "1.50", "999999999.999999999", "0.000000001", "10.01")
	return l
}

// Promise 3: tokens come back from their text, each alone and every two.
func TestPromise3EveryTwo(t *testing.T) {
	t.Parallel()
	comesBack(t, nil)
	comesBack(t, []impl.Token{})
	all := allTokens()
	for _, a := range all {
		comesBack(t, []impl.Token{a})
		for _, b := range all {
			comesBack(t, []impl.Token{a, b})
		}
	}
}

func TestPromise3ManyTokens(t *testing.T) {
	t.Parallel()
	c := newChance(51)
	for n := range 401 {
		comesBack(t, c.tokens(n))
		comesBack(t, c.tokens(n%40))
		comesBack(t, slices.Repeat([]impl.Token{c.token()}, n))
	}
}

// Promise 3: a source that is read, its tokens' text read again.
func TestPromise3Sources(t *testing.T) {
	t.Parallel()
	c := newChance(52)
	readAgain(t, "kernel add(a buffer float, n int) {\n\tlet i = 0 // first\n\tfor k in 0..n { a[k] = a[k]*1.50+2.0; }\n\tif i<=1&&!(n>>2!=0) { barrier; } else { a[0] = -0.5; }\n}\n")
	read := 0
	for n := range 20000 {
		if readAgain(t, c.source(n%8)) {
			read++
		}
	}
	for n := range 2000 {
		var b strings.Builder
		for _, token := range c.tokens(n % 60) {
			b.WriteString(token.Text + strings.Repeat("\n", c.Intn(2)))
		}
		if readAgain(t, b.String()) {
			read++
		}
	}
	if read < 3000 {
		t.Errorf("only %d sources were read", read)
	}
}

// readAgain: whether a source can be read; then its tokens come back.
func readAgain(t *testing.T, source string) bool {
	t.Helper()
	r := impl.ReadTokens(source)
	if r.Code != 0 {
		return false
	}
	comesBack(t, r.Tokens)
	return true
}

// A text may be longer than a source is.
func TestPromise3LongTexts(t *testing.T) {
	t.Parallel()
	twenty := impl.Token{Kind: impl.TokName, Text: strings.Repeat("😀", 20)}
	for _, n := range []int{24, 25, 100, 400} {
		l := slices.Repeat([]impl.Token{twenty}, n)
		text, ok := impl.TokensText(l)
		if !ok || len(text) != 81*n-1 || text != textsOf(l) {
			t.Errorf("%d names of 80 bytes: %d bytes, %v", n, len(text), ok)
		}
		if r := impl.ReadTokens(text); (r.Code == impl.LexLong) != (n >= 25) || r.At != 0 {
			t.Errorf("%d names of 80 bytes: %d at %d", n, r.Code, r.At)
		}
	}
}

// noText: tokens that may not be have none.
func noText(t *testing.T, l []impl.Token) {
	t.Helper()
	if text, ok := impl.TokensText(l); ok || text != "" {
		t.Errorf("the text of %v is %q, %v", l, text, ok)
	}
}

// Promise 25: Kinds and Texts that may not be: each text has one kind alone.
func TestPromise25Kinds(t *testing.T) {
	t.Parallel()
	kinds := []int{0, 1, 2, 3, 4, 5, 6, -1, -5, 255, 257, 1 << 32, 1<<32 + 1, math.MinInt64, math.MaxInt64}
	for _, token := range allTokens() {
		for _, kind := range kinds {
			if kind != token.Kind {
				noText(t, []impl.Token{{Kind: kind, Text: token.Text}})
			}
		}
	}
	noText(t, []impl.Token{{}})
	noText(t, []impl.Token{{Kind: impl.TokName, Text: "if"}})
	noText(t, []impl.Token{{Kind: impl.TokWord, Text: "iff"}})
}

// notTokens: texts that are no token's.
func notTokens() []string {
	l := strings.Split("| |a |\na|a b|1 2|+ +|//|// a|a//|/ /|. .|...|=>|<<=|!!|~|.|.5|1.|1..2|a.b|a+|+a|1a|0a|-1|+1|1e5|0x1|1_0|00|01|007|2147483648|4294967297|18446744073709551617|00.0|01.5|1234567890.5|1.1234567890|1.5.5|-1.5|+1.5|1,5|1.5 | 1.5|1.5e3|inf|NaN.0|0.|.0|\x00|a\x00|if |if\n|1\r|１|١|١.٥|1.٥|½", "|")
	l = slices.DeleteFunc(l, wantName) // the digits of others are runes of names
	l = append(l, strings.Repeat("a", 21), strings.Repeat("é", 21), strings.Repeat("1", 5000), strings.Repeat("1", 5000)+".5", "1."+strings.Repeat("5", 5000))
	for _, s := range brokenRunes {
		l = append(l, s, "a"+s, s+"a", "1"+s, "1.5"+s, "+"+s, "if"+s)
	}
	return l
}

func TestPromise25Texts(t *testing.T) {
	t.Parallel()
	for _, text := range notTokens() {
		for kind := range 7 {
			noText(t, []impl.Token{{Kind: kind, Text: text}})
		}
	}
}

// Promise 25: one that may not be, at any place, and one too many.
func TestPromise25TokensText(t *testing.T) {
	t.Parallel()
	c := newChance(53)
	for n := 1; n <= 400; n += 19 {
		l := c.tokens(n)
		comesBack(t, l)
		for _, i := range []int{0, c.Intn(n), n - 1} {
			k := slices.Clone(l)
			k[i].Text += " "
			noText(t, k)
			k[i] = l[i]
			k[i].Kind = 0
			noText(t, k)
		}
	}
	for _, n := range []int{401, 402, 1000} {
		noText(t, c.tokens(n))
		noText(t, slices.Repeat([]impl.Token{{Kind: impl.TokSign, Text: "+"}}, n))
	}
	places := []impl.Token{{Kind: impl.TokName, Text: "a", At: math.MinInt64}, {Kind: impl.TokSign, Text: "+", At: math.MaxInt64}, {Kind: impl.TokWhole, Text: "1", At: -1}}
	comesBack(t, places)
}

// Promise 25: texts that are no TokFloat's have no word.
func TestPromise25FloatOf(t *testing.T) {
	t.Parallel()
	l := notTokens()
	for _, token := range allTokens() {
		if token.Kind != impl.TokFloat {
			l = append(l, token.Text)
		} else if _, ok := impl.FloatOf(token.Text); !ok {
			t.Errorf("FloatOf(%q) has no word", token.Text)
		}
	}
	l = append(l, "", "..", "0", "1.5f", "0.0 ", "0.0\x00", "1.5\n", "1.-5", "1.+5", "-0.0", "0x1.8", "Inf", "1.5_0", "1.5e-3", "0.0000000000", "0000000000.0", "1/2")
	for _, text := range l {
		if got, ok := impl.FloatOf(text); ok || got != 0 {
			t.Errorf("FloatOf(%q) = %#x, %v", text, got, ok)
		}
	}
	for n := range 12 {
		for m := range 12 {
			ok := n >= 1 && n <= 9 && m >= 1 && m <= 9
			if _, got := impl.FloatOf(strings.Repeat("8", n) + "." + strings.Repeat("0", m)); got != ok {
				t.Errorf("FloatOf of %d digits and %d behind the point: %v", n, m, got)
			}
		}
	}
}

// Promise 25: sources of any bytes and any length end in tokens or in a fault.
func TestPromise25Sources(t *testing.T) {
	t.Parallel()
	c := newChance(54)
	for range 3000 {
		b := make([]byte, c.Intn(2100))
		for i := range b {
			b[i] = byte(c.Uint32())
			if c.Intn(8) != 0 {
				b[i] = "abcéif019. \n+<=/_\xe2\x82\xac"[c.Intn(21)]
			}
		}
		r := impl.ReadTokens(string(b))
		switch {
		case r.Code < 0 || r.Code > impl.LexMany || r.At < 0 || r.At > len(b):
			t.Errorf("ReadTokens(%q): %v", b, r)
		case r.Code != 0 && len(r.Tokens) != 0 || r.Code == 0 && r.At != 0:
			t.Errorf("ReadTokens(%q): %v", b, r)
		}
	}
}

// sharesText: whether a text lies within the memory of another one.
func sharesText(text, of string) bool {
	if text == "" || of == "" {
		return false
	}
	at, from := uintptr(unsafe.Pointer(unsafe.StringData(text))), uintptr(unsafe.Pointer(unsafe.StringData(of)))
	return at < from+uintptr(len(of)) && from < at+uintptr(len(text))
}

// Promise 25: lists and texts that are answered are new memory.
func TestPromise25NewTokens(t *testing.T) {
	t.Parallel()
	c := newChance(55)
	for n := range 200 {
		l := c.tokens(n)
		source := textsOf(l)
		apartFrom(t, "ReadTokens", []byte(source), func(b []byte) []impl.Token { return impl.ReadTokens(string(b)).Tokens })
		apartFrom(t, "TokensText", l, func(l []impl.Token) []byte { text, _ := impl.TokensText(l); return []byte(text) })
		for _, token := range impl.ReadTokens(source).Tokens {
			if sharesText(token.Text, source) {
				t.Errorf("%q is a piece of its source", token.Text)
			}
		}
		text, _ := impl.TokensText(l[:min(n, 1)])
		if n > 0 && sharesText(text, l[0].Text) {
			t.Errorf("the text of one token is its own: %q", text)
		}
	}
}

// Promise 25: what one call of Words and Signs answers is its own.
func TestPromise25WordsAndSigns(t *testing.T) {
	t.Parallel()
	for i, call := range []func() []string{impl.Words, impl.Signs} {
		want := [][]string{wantWords, wantSigns}[i]
		first, second := call(), call()
		for k := range first[:cap(first)] {
			first[:cap(first)][k] = "x" + strconv.Itoa(k)
		}
		if !slices.Equal(second, want) || !slices.Equal(call(), want) {
			t.Errorf("list %d is changed by writing into another one's answer", i)
		}
	}
	if impl.GoodName("let") || !impl.GoodName("x0") || told(impl.ReadTokens("let x0 <<=")) != "word let, name x0, sign <<, sign =" {
		t.Error("what is read hangs on what was written into an answer")
	}
}
