package tests

import (
	"math/big"
	"regexp"
	"slices"
	"strings"
	"unicode/utf8"

	"loop.example/g00053/impl"
)

// Tokens another way: at each place every piece of the source is held against
// the form of each kind, and the longest that has one is the token.

var (
	nameForm  = regexp.MustCompile(`^[A-Za-z_\x{80}-\x{10FFFF}][0-9A-Za-z_\x{80}-\x{10FFFF}]*$`)
	wholeForm = regexp.MustCompile(`^[0-9]+$`)
	floatForm = regexp.MustCompile(`^[0-9]+\.[0-9]+$`)

	goodWhole = regexp.MustCompile(`^(0|[1-9][0-9]{0,9})$`)
	goodFloat = regexp.MustCompile(`^(0|[1-9][0-9]{0,8})\.[0-9]{1,9}$`)
)

var (
	wantWords = strings.Fields("barrier bool buffer else false float for if in int kernel let true")
	wantSigns = strings.Fields("! != % & && ( ) * + , - .. / : ; < << <= = == > >= >> [ ] ^ { | || }")
)

// kindOfText: of a text that has the form of a token, 0 of one that has not.
func kindOfText(s string) int {
	switch {
	case slices.Contains(wantWords, s):
		return impl.TokWord
	case slices.Contains(wantSigns, s):
		return impl.TokSign
	case wholeForm.MatchString(s):
		return impl.TokWhole
	case floatForm.MatchString(s):
		return impl.TokFloat
	case nameForm.MatchString(s) && utf8.ValidString(s):
		return impl.TokName
	}
	return 0
}

// faultOfText: what is wrong with a text of that form.
func faultOfText(kind int, s string) int {
	switch {
	case kind == impl.TokName && utf8.RuneCountInString(s) > 20:
		return impl.LexName
	case kind == impl.TokFloat && !goodFloat.MatchString(s):
		return impl.LexNumber
	case kind == impl.TokWhole && (!goodWhole.MatchString(s) || len(s) == 10 && s > "2147483647"):
		return impl.LexNumber
	}
	return 0
}

func wantLexed(source string) impl.Lexed {
	if len(source) > 2000 {
		return impl.Lexed{Code: impl.LexLong}
	}
	var l []impl.Token
	for at := 0; at < len(source); {
		rest := source[at:]
		if strings.HasPrefix(rest, "//") {
			line, _, _ := strings.Cut(rest, "\n")
			at += len(line)
			continue
		}
		if rest[0] == 32 || rest[0] == 9 || rest[0] == 10 {
			at++
			continue
		}
		length := len(rest)
		for length > 0 && kindOfText(rest[:length]) == 0 {
			length--
		}
		kind := kindOfText(rest[:length])
		if kind == 0 {
			return impl.Lexed{Code: impl.LexRune, At: at}
		}
		if code := faultOfText(kind, rest[:length]); code != 0 {
			return impl.Lexed{Code: code, At: at}
		}
		if len(l) == 400 {
			return impl.Lexed{Code: impl.LexMany, At: at}
		}
		l = append(l, impl.Token{Kind: kind, Text: rest[:length], At: at})
		at += length
	}
	return impl.Lexed{Tokens: l}
}

// wantFloat: the word nearest to a fraction.
func wantFloat(text string) uint32 {
	r, ok := new(big.Rat).SetString(text)
	if !ok {
		panic(text)
	}
	f, _ := r.Float32()
	return bitsOf(f)
}

// brokenRunes: bytes with which no whole rune begins.
var brokenRunes = []string{
	"\xc3", "\xdf", "\xe2", "\xe2\x82", "\xf0", "\xf0\x9f", "\xf0\x9f\x98", "\xf4\x8f\xbf", // cut off
	"\x80", "\x9f", "\xa9", "\xbf", "\xf5", "\xf8", "\xfe", "\xff", "\xbf\xbf", // with which none begins
	"\xc0\x80", "\xc0\xaf", "\xc1\xa1", "\xc1\xbf", "\xe0\x80\x80", "\xe0\x9f\xbf", "\xf0\x80\x80\x80", "\xf0\x8f\xbf\xbf", // longer than they must be
	"\xed\xa0\x80", "\xed\xad\xbf", "\xed\xb0\x80", "\xed\xbf\xbf", // halves of pairs
	"\xf4\x90\x80\x80", "\xf7\xbf\xbf\xbf", "\xf8\x88\x80\x80\x80", "\xfc\x84\x80\x80\x80\x80", // beyond U+10FFFF
}

// wholeRunes: runes from 128 on, at the edges of their lengths and of what is
// none, and the one that stands for broken ones elsewhere.
var wholeRunes = []string{
	"\u0080", "\u00a0", "é", "\u07ff", "\u0800", "€", "\ud7ff", "\ue000", "\ufeff", "\ufffd", "\uffff", "\U00010000", "😀", "\U0010ffff",
}

// pieces: what sources are put together of.
var pieces = slices.Concat(wantWords, wantSigns, brokenRunes[:4], wholeRunes[:12], strings.Split("a B _ _x1 size größe iff ifs If 0 1 7 00 01 10 0.5 1.25 1. 1.. .5 . ... 2147483647 2147483648 123456789 1234567890 999999999.999999999 12345678901 # @ ? ~ \x00 \r \" ' \\ $ // / // /", " "), []string{" ", "  ", "\t", "\n", "// x\n", "// \xff \n", "//"})

func (c chance) piece() string { return pieces[c.Intn(len(pieces))] }

// source: pieces with or without blanks between.
func (c chance) source(n int) string {
	var b strings.Builder
	for range n {
		b.WriteString(c.piece())
		if c.Intn(3) == 0 {
			b.WriteString(" ")
		}
	}
	return b.String()
}

// name: one of any good length, with runes of every length.
func (c chance) name() string {
	for {
		s := strings.Split("a b Z _ é € 😀 \ufffd", " ")[c.Intn(8)]
		for range c.Intn(20) {
			s += strings.Split("a e i f n 0 9 Z _ é € 😀 \ufffd", " ")[c.Intn(13)]
		}
		if !slices.Contains(wantWords, s) {
			return s
		}
	}
}

func (c chance) digits(n int) string {
	b := make([]byte, n)
	for i := range b {
		b[i] = byte('0' + c.Intn(10))
	}
	return string(b)
}

// plain: digits without a needless nought ahead.
func (c chance) plain(n int) string {
	s := strings.TrimLeft(c.digits(n), "0")
	if s == "" {
		return "0"
	}
	return s
}

// floatText: the text of a TokFloat.
func (c chance) floatText() string {
	return c.plain(1+c.Intn(9)) + "." + c.digits(1+c.Intn(9))
}

// token: one of any kind that may be.
func (c chance) token() impl.Token {
	at := int(c.Uint32()) - 1<<31
	switch c.Intn(5) {
	case 0:
		return impl.Token{Kind: impl.TokName, Text: c.name(), At: at}
	case 1:
		return impl.Token{Kind: impl.TokWhole, Text: c.plain(1 + c.Intn(9)), At: at}
	case 2:
		return impl.Token{Kind: impl.TokFloat, Text: c.floatText(), At: at}
	case 3:
		return impl.Token{Kind: impl.TokSign, Text: wantSigns[c.Intn(len(wantSigns))], At: at}
	}
	return impl.Token{Kind: impl.TokWord, Text: wantWords[c.Intn(len(wantWords))], At: at}
}

func (c chance) tokens(n int) []impl.Token {
	l := make([]impl.Token, n)
	for i := range l {
		l[i] = c.token()
	}
	return l
}
