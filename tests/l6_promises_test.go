package tests

import (
	"math"
	"slices"
	"strings"
	"testing"

	"loop.example/g00053/impl"
)

// Promise 25: signs, calls and kinds of any sort.
func TestPromise25AnyOperations(t *testing.T) {
	t.Parallel()
	c := newChance(110)
	texts := slices.Concat(betweenSigns, wrongTexts, brokenRunes, []string{strings.Repeat("+", 100000), "+\n", "\x00", "abs\x00"})
	for _, text := range texts {
		for _, kind := range kindsOfAll {
			for n := range 6 {
				args := c.words(n)
				heldCall(t, text, kind, args)
				heldOp(t, text, kind, c.word(), c.word())
			}
			heldOp(t, text, kind, 0, 0)
			heldOp(t, text, kind, math.MaxUint32, math.MaxUint32)
		}
	}
}

// Promise 25: what a sign or a call answers hangs on nothing but what it is
// given, and it is one word for each of them.
func TestPromise25OperationsAgain(t *testing.T) {
	t.Parallel()
	c := newChance(111)
	for range 200 {
		args := c.words(3)
		for _, op := range betweenSigns {
			for kind := range 4 {
				first := impl.OpWords(op, kind, args[0], args[1])
				impl.OpWords(betweenSigns[c.Intn(len(betweenSigns))], c.Intn(4), args[1], args[2])
				if impl.OpWords(strings.Clone(op), kind, args[0], args[1]) != first {
					t.Errorf("%#x %s %#x of kind %d is another word again", args[0], op, args[1], kind)
				}
			}
		}
	}
}

// Promise 25: args are not changed, and nothing behind their length is read.
func TestPromise25Args(t *testing.T) {
	t.Parallel()
	c := newChance(112)
	for range 100 {
		for n := range 5 {
			l := c.words(n)
			for _, name := range wantCalls {
				for kind := range 4 {
					apartFrom(t, name, l, func(l []uint32) []uint32 { return []uint32{impl.CallWords(name, kind, l)} })
				}
			}
		}
	}
	long := []uint32{one, two, threeHalves}
	for n := range 4 {
		for _, name := range wantCalls {
			if got, want := impl.CallWords(name, impl.TFloat, long[:n]), impl.CallWords(name, impl.TFloat, slices.Clone(long[:n])); got != want {
				t.Errorf("%s of %d words: %#x, want %#x", name, n, got, want)
			}
		}
	}
}

// Promise 25: every word is made a float, and every float a whole number.
func TestPromise25EveryWordIsMade(t *testing.T) {
	t.Parallel()
	c := newChance(113)
	for range 100000 {
		a := c.Uint32()
		if f := impl.ToFloat(a); f&^minus > 0x4f000000 || negative(f) != negative(a) {
			t.Errorf("ToFloat(%d) = %#x", signed(a), f)
		}
		if w := impl.ToWhole(a); w != 0 && negative(w) != negative(a) {
			t.Errorf("ToWhole(%#x) = %d", a, signed(w))
		}
	}
}

// Promise 25: nodes of any sort.
func TestPromise25ConstantsOfAnyNodes(t *testing.T) {
	t.Parallel()
	c := newChance(114)
	some := func(n int) int {
		if c.Intn(3) == 0 {
			return wrongInts[c.Intn(len(wrongInts))]
		}
		return c.Intn(n)
	}
	for n := range 6000 {
		l := make([]impl.Node, c.Intn(1+n%300))
		for i := range l {
			l[i] = impl.Node{Kind: some(22), Text: wrongTexts[c.Intn(len(wrongTexts))], Kids: some(4)}
		}
		heldConst(t, l)
		heldFold(t, l)
		if len(l) > 1 {
			l[0], l[1] = impl.Node{Kind: impl.NKernel, Text: "k", Kids: 1}, impl.Node{Kind: impl.NBlock, Kids: some(9)}
		}
		heldFold(t, l)
	}
	for _, n := range []int{251, 1000, 100000} {
		ones := slices.Repeat(nodesOf("1 1 0"), n)
		noConst(t, ones)
		noFold(t, ones)
		noConst(t, slices.Repeat(nodesOf("6 - 1"), n))
		noFold(t, slices.Repeat(nodesOf("16 k 1"), n))
		noConst(t, slices.Repeat(nodesOf("7 + 2"), n))
	}
}

// Promise 25: Kinds, Kids and Texts that are not as said, in a kernel with nodes
// of every kind.
func TestPromise25FoldsWithOneChange(t *testing.T) {
	t.Parallel()
	l := impl.ReadKernel(given("let x = 1 + 2 ; let p = ! ( 1 < 2 ) ; x = 3 - 8 ; a [ 1 + 1 ] = a [ abs ( - 2 ) ] ; b [ tid ( ) ] = 0.5 * ( 2 - 4 ) ; if p || 1 == 1 { x = int ( 1.5 ) ; } else { p = false ; } barrier ; for i in 1 - 1 .. 2 * 2 { x = i ; }")).Nodes
	if got := heldFold(t, l); slices.Equal(got, l) || len(got) >= len(l) {
		t.Errorf("FoldKernel(%v) = %v", l, got)
	}
	for at := range l {
		noFold(t, l[:at])
		if at > 0 {
			noFold(t, l[at:])
		}
		noFold(t, append(slices.Clone(l), l[at:]...))
		for _, n := range wrongInts {
			k := slices.Clone(l)
			k[at].Kids = n
			if n != l[at].Kids {
				noFold(t, k)
			}
			k[at] = impl.Node{Kind: n, Text: l[at].Text, Kids: l[at].Kids}
			if heldFold(t, k); n < 1 || n > 20 {
				noFold(t, k)
			}
		}
		for _, text := range wrongTexts {
			k := slices.Clone(l)
			k[at].Text = text
			heldFold(t, k)
		}
	}
}

// newTexts: nodes whose texts lie in memory of their own.
func newTexts(l []impl.Node) []impl.Node {
	l = slices.Clone(l)
	for i := range l {
		l[i].Text = strings.Clone(l[i].Text)
	}
	return l
}

// Promise 25: nodes that are given are not changed, and those that are answered
// are new memory, also where they are as they were.
func TestPromise25NewFoldedNodes(t *testing.T) {
	t.Parallel()
	c := newChance(115)
	deep := impl.ReadKernel(given(nested(9, "let x = 3 - 8 ;"))).Nodes
	for n := range 200 {
		l := c.kernelWithConsts(n % 60)
		switch n % 4 {
		case 0:
			l = deep
		case 1:
			l = c.kernelWithTypes(n, 0).nodes()
		case 2:
			l = c.kernelWithTypes(n, 20).nodes()
		}
		l = newTexts(l)
		apartFrom(t, "FoldKernel", l, func(l []impl.Node) []impl.Node { folded, _ := impl.FoldKernel(l); return folded })
		apartFrom(t, "ConstOf", l, func(l []impl.Node) []uint32 { kind, word, _ := impl.ConstOf(l); return []uint32{uint32(kind), word} })
		expr := c.constExpr(typeLetters[1+n%3], n%40).nodes()
		apartFrom(t, "ConstOf", expr, func(l []impl.Node) []uint32 { kind, word, _ := impl.ConstOf(l); return []uint32{uint32(kind), word} })
		folded, _ := impl.FoldKernel(l)
		for _, node := range folded {
			if slices.ContainsFunc(l, func(given impl.Node) bool { return sharesText(node.Text, given.Text) }) {
				t.Errorf("%q shares the memory of a node's text", node.Text)
			}
		}
	}
}

// Promise 25: what lies behind the nodes' length is not read.
func TestPromise25BehindFoldedNodes(t *testing.T) {
	t.Parallel()
	expr := exprOf(strings.Fields("1 + 2 * 3")).nodes()
	long := append(slices.Clone(expr), expr...)
	if got := toldConst(long[:len(expr)]); got != "int 7" {
		t.Errorf("ConstOf hangs on what lies behind: %s", got)
	}
	for n := range expr {
		noConst(t, long[:n])
	}
	kernel := impl.ReadKernel(given("a [ 0 ] = 1 + 2 ;")).Nodes
	long = append(slices.Clone(kernel), kernel...)
	if got, ok := impl.FoldKernel(long[:len(kernel)]); !ok || !slices.Equal(got, impl.ReadKernel(given("a [ 0 ] = 3 ;")).Nodes) {
		t.Errorf("FoldKernel hangs on what lies behind: %v", got)
	}
}

// A folded kernel has types again, as many statements in the same order, and
// nothing more to fold.
func TestFoldedKernelsAreKernels(t *testing.T) {
	t.Parallel()
	c := newChance(116)
	statements := func(l []impl.Node) []impl.Node {
		return slices.DeleteFunc(slices.Clone(l), func(n impl.Node) bool { return n.Kind <= impl.NCall })
	}
	for n := range 1000 {
		l := c.kernelWithConsts(n % 70)
		folded, ok := impl.FoldKernel(l)
		if !ok || len(impl.TypeKernel(folded).Types) != len(folded) || len(folded) > len(l) {
			t.Errorf("%v is folded to %v", l, folded)
		}
		if !slices.Equal(statements(l), statements(folded)) {
			t.Errorf("%v is folded to %v with other statements", l, folded)
		}
		if again, ok := impl.FoldKernel(folded); !ok || !slices.Equal(again, folded) {
			t.Errorf("%v is folded to %v, and again to %v", l, folded, again)
		}
	}
}

// Every expression of a folded kernel that hangs on nothing has the value that
// it had ahead.
func TestFoldedExpressionsKeepTheirValue(t *testing.T) {
	t.Parallel()
	c := newChance(117)
	for n := range 3000 {
		letter := typeLetters[1+n%3]
		expr := c.constExpr(letter, n%30)
		l := slices.Concat(nodesOf("16 k 1, 15 1, 9 x 1"), expr.nodes())
		if !wantGood(l) {
			continue
		}
		folded, _ := impl.FoldKernel(l)
		if got, want := toldConst(folded[3:]), toldConst(expr.nodes()); got != want || got == "false" {
			t.Errorf("%v is %s, folded %s", l, want, got)
		}
		if letter != 'f' && len(folded) > 5 && toldConst(folded[3:]) != "int -2147483648" {
			t.Errorf("%v is folded to %v only", l, folded)
		}
	}
}
