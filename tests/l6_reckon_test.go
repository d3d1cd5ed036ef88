package tests

import (
	"math"
	"slices"
	"strings"
	"testing"

	"loop.example/g00053/impl"
)

// What a thread reckons, held against the other way.

// kindsOfAll: the kinds that operands can have, and others from the least int to
// the greatest.
var kindsOfAll = slices.Concat(wrongInts, []int{5, 6, -3, 256, 257, 258, 259, 1<<32 + 2, 1<<32 + 3, math.MinInt64 + 2, math.MinInt64 + 3, 1<<63 - 3, -1<<32 + 1, -1<<32 + 2})

// wordsToReckon: the edges of whole numbers, of floats and of bools.
func wordsToReckon() []uint32 {
	l := fewWords()
	for _, n := range []int64{-1, -2, -3, -7, -8, -31, -32, -33, 4, 5, 7, 8, 30, 31, 32, 33, 63, 64, 65, 255, 46340, 46341, 65535, 65536, 16777216, 16777217, -16777217, math.MaxInt32, math.MaxInt32 - 1, math.MinInt32 + 1, math.MinInt32} {
		l = append(l, uint32(n))
	}
	return append(l, 0x7f800001, 0xffc00000, 0x40490fdb, 0x3f000000, 0xbf000000, 0x4f000000, 0xcf000000)
}

func heldOp(t *testing.T, op string, kind int, a, b uint32) {
	t.Helper()
	if got, want := impl.OpWords(op, kind, a, b), wantOp(op, kind, a, b); got != want {
		t.Errorf("OpWords(%q, %d, %#x, %#x) = %#x, want %#x", op, kind, a, b, got, want)
	}
}

func heldCall(t *testing.T, name string, kind int, args []uint32) {
	t.Helper()
	if got, want := impl.CallWords(name, kind, args), wantCall(name, kind, args); got != want {
		t.Errorf("CallWords(%q, %d, %#x) = %#x, want %#x", name, kind, args, got, want)
	}
}

func TestEverySignAtEveryKind(t *testing.T) {
	t.Parallel()
	words := wordsToReckon()
	for _, op := range betweenSigns {
		for kind := range 5 {
			for _, a := range words {
				for _, b := range words {
					heldOp(t, op, kind, a, b)
				}
			}
		}
	}
}

func TestSignsOfWordsByChance(t *testing.T) {
	t.Parallel()
	c := newChance(101)
	for range 3000 {
		a, b := c.word(), c.word()
		if c.Intn(3) == 0 {
			a, b = c.Uint32()>>c.Intn(32), -(c.Uint32() >> c.Intn(32))
		}
		for _, op := range betweenSigns {
			for kind := 1; kind <= 3; kind++ {
				heldOp(t, op, kind, a, b)
				heldOp(t, op, kind, b, a)
				heldOp(t, op, kind, a, a)
			}
		}
	}
}

func TestEveryCallAtEveryKind(t *testing.T) {
	t.Parallel()
	words := wordsToReckon()
	few := fewWords()
	for _, name := range wantCalls {
		for kind := range 5 {
			heldCall(t, name, kind, nil)
			for _, a := range words {
				heldCall(t, name, kind, []uint32{a})
				for _, b := range words {
					heldCall(t, name, kind, []uint32{a, b})
				}
			}
			for i, a := range few {
				for _, b := range few {
					heldCall(t, name, kind, []uint32{a, b, few[(i*7+3)%len(few)]})
				}
			}
		}
	}
}

func TestCallsOfWordsByChance(t *testing.T) {
	t.Parallel()
	c := newChance(102)
	for range 3000 {
		args := c.words(3)
		for _, name := range wantCalls {
			for kind := 1; kind <= 2; kind++ {
				heldCall(t, name, kind, args[:wantArity[name]])
			}
		}
	}
}

func heldMade(t *testing.T, a uint32) {
	t.Helper()
	if got, want := impl.ToFloat(a), wantToFloat(a); got != want {
		t.Errorf("ToFloat(%d) = %#x, want %#x", signed(a), got, want)
	}
	if got, want := impl.ToWhole(a), wantToWhole(a); got != want {
		t.Errorf("ToWhole(%#x) = %d, want %d", a, signed(got), signed(want))
	}
}

func TestToFloatAndToWhole(t *testing.T) {
	t.Parallel()
	for _, a := range slices.Concat(wordsToReckon(), moreWords()) {
		for n := range uint32(5) {
			heldMade(t, a+n-2)
		}
	}
	for shift := range 32 {
		for n := range uint32(9) {
			heldMade(t, 1<<shift+n-4)
			heldMade(t, -(1<<shift + n - 4))
			heldMade(t, 0xffffff80<<shift+n<<shift>>1)
		}
	}
	c := newChance(103)
	for range 20000 {
		heldMade(t, c.word())
		heldMade(t, c.Uint32()>>c.Intn(32))
		heldMade(t, -(c.Uint32() >> c.Intn(32)))
	}
}

// heldConst holds ConstOf at nodes of any sort, and tells whether they have a
// value.
func heldConst(t *testing.T, l []impl.Node) bool {
	t.Helper()
	kind, word, ok := impl.ConstOf(l)
	wantKind, wantWord, want := wantConst(l)
	if kind != wantKind || word != wantWord || ok != want {
		t.Errorf("ConstOf(%v) = %d, %#x, %v, want %d, %#x, %v", l, kind, word, ok, wantKind, wantWord, want)
	}
	return ok
}

// heldFold holds FoldKernel at nodes of any sort.
func heldFold(t *testing.T, l []impl.Node) []impl.Node {
	t.Helper()
	got, ok := impl.FoldKernel(l)
	want, wantOk := wantFold(l)
	if !slices.Equal(got, want) || ok != wantOk {
		t.Errorf("FoldKernel(%v) = %v, %v, want %v, %v", l, got, ok, want, wantOk)
	}
	return got
}

// Every operation at operands of every row of types.
func TestConstantsOfEveryOperation(t *testing.T) {
	t.Parallel()
	forms := map[rune][]string{
		'i': {"0", "1", "2147483647", "- 7", "( 0 - 2147483647 - 1 )", "5"},
		'f': {"0.0", "- 0.0", "0.5", "- 7.5", "( 1.0 / 0.0 )", "( 0.0 / 0.0 )", "3000000.0"},
		'b': {"true", "false"},
	}
	texts := slices.Concat(betweenSigns, wantCalls)
	for _, text := range texts {
		count := 2
		if isCall(text) {
			count = wantArity[text]
		}
		for _, letters := range operandLetters(count) {
			rows := [][]string{nil}
			for _, letter := range letters {
				var longer [][]string
				for _, row := range rows {
					for _, form := range forms[letter] {
						longer = append(longer, append(slices.Clone(row), form))
					}
				}
				rows = longer
			}
			for _, row := range rows {
				l := exprOf(strings.Fields(operationText(text, row))).nodes()
				if heldConst(t, l) != (wantOutcome(text, letters) != '-' && count > 0) {
					t.Errorf("%v: a value", l)
				}
			}
		}
	}
	for _, sign := range []string{"-", "!"} {
		for letter, l := range forms {
			for _, form := range l {
				if heldConst(t, exprOf(strings.Fields(sign+" "+form)).nodes()) != (wantOutcome(sign, string(letter)) != '-') {
					t.Errorf("%s %s: a value", sign, form)
				}
			}
		}
	}
}

func TestConstantsByChance(t *testing.T) {
	t.Parallel()
	c := newChance(104)
	for n := range 12000 {
		letter := typeLetters[1+n%3]
		l := c.constExpr(letter, n%60).nodes()
		if kind, _, ok := impl.ConstOf(l); heldConst(t, l) && (!ok || typeLetters[kind] != letter) || len(l) <= 250 && !ok {
			t.Errorf("ConstOf(%v): %d, %v", l, kind, ok)
		}
	}
}

// An expression that hangs on nothing, with one node changed.
func TestConstantsWithOneChange(t *testing.T) {
	t.Parallel()
	c := newChance(105)
	for n := range 40 {
		l := c.constExpr(typeLetters[1+n%3], n).nodes()
		for at := range l {
			for _, text := range slices.Concat(wrongTexts, []string{"0.5", "true", "tid"}) {
				k := slices.Clone(l)
				k[at].Text = text
				heldConst(t, k)
			}
			for _, number := range slices.Concat(wrongInts, []int{5, 6, 9, 10, 11, 15, 16, 17}) {
				k := slices.Clone(l)
				k[at].Kind = number
				heldConst(t, k)
				k[at].Kind, k[at].Kids = l[at].Kind, number
				heldConst(t, k)
			}
			heldConst(t, slices.Delete(slices.Clone(l), at, at+1))
			heldConst(t, slices.Insert(slices.Clone(l), at, l[at]))
			heldConst(t, l[:at])
			heldConst(t, l[at:])
		}
	}
}

// Expressions as they come: with names, loads and calls, with types or without.
func TestConstantsOfAnyExpressions(t *testing.T) {
	t.Parallel()
	c := newChance(106)
	values := 0
	for n := range 6000 {
		if heldConst(t, c.expr(n%12).nodes()) {
			values++
		}
	}
	if values < 200 {
		t.Errorf("only %d expressions have a value", values)
	}
}

func TestFoldsKernelsByChance(t *testing.T) {
	t.Parallel()
	c := newChance(107)
	folded, kept := 0, 0
	for n := range 1500 {
		l := c.kernelWithConsts(n % 60)
		if got := heldFold(t, l); slices.Equal(got, l) {
			kept++
		} else {
			folded++
		}
	}
	if folded < 700 || kept < 50 {
		t.Errorf("%d kernels are folded, %d stay", folded, kept)
	}
}

func TestFoldsAnyGoodKernels(t *testing.T) {
	t.Parallel()
	c := newChance(108)
	for n := range 1500 {
		heldFold(t, c.kernelWithTypes(n%80, n%3*30).nodes())
		heldFold(t, c.goodKernel(n%40).nodes())
		heldFold(t, c.anyKernel(n%100).nodes())
	}
}

// A kernel in which each expression in turn hangs on nothing.
func TestFoldsEachExpression(t *testing.T) {
	t.Parallel()
	c := newChance(109)
	for n := range 40 {
		l := c.kernelWithTypes(n, 0).nodes()
		types := wantTyped(l).Types
		for at, node := range l {
			if node.Kind > impl.NCall {
				continue
			}
			for size := range 5 {
				expr := c.constExpr(typeLetters[types[at]], 1+size).nodes()
				heldFold(t, slices.Concat(l[:at], expr, l[impl.NodeEnd(l, at):]))
			}
		}
	}
}
