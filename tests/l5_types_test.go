package tests

import (
	"math"
	"slices"
	"strings"
	"testing"

	"loop.example/g00053/impl"
)

// Types held against the other way.

func sameTyped(a, b impl.Typed) bool {
	return slices.Equal(a.Types, b.Types) && a.Code == b.Code && a.At == b.At
}

// heldTyped holds all of chapter 5 at nodes of any sort, and tells what was
// found.
func heldTyped(t *testing.T, l []impl.Node) impl.Typed {
	t.Helper()
	got, want := impl.TypeKernel(l), wantTyped(l)
	if !sameTyped(got, want) {
		t.Errorf("TypeKernel(%v) = %v, want %v", l, got, want)
	}
	var names []string
	loops := 0
	if len(want.Types) > 0 {
		names, loops = seatsOf(l).wantNames(), seatsOf(l).wantLoops()
	}
	if got := impl.NamesOf(l); !slices.Equal(got, names) {
		t.Errorf("NamesOf(%v) = %q, want %q", l, got, names)
	}
	if got := impl.LoopsOf(l); got != loops {
		t.Errorf("LoopsOf(%v) = %d, want %d", l, got, loops)
	}
	return got
}

// typedSource holds a source that is read.
func typedSource(t *testing.T, source string) impl.Typed {
	t.Helper()
	r := impl.ReadKernel(source)
	if r.Code != 0 {
		t.Errorf("ReadKernel(%q): %v", source, r)
	}
	return heldTyped(t, r.Nodes)
}

func TestConstantsOfTypes(t *testing.T) {
	t.Parallel()
	got := []int{impl.TNone, impl.TWhole, impl.TFloat, impl.TBool, impl.TypName, impl.TypTwice, impl.TypKind, impl.TypSet, impl.TypBarrier}
	if !slices.Equal(got, []int{0, 1, 2, 3, 1, 2, 3, 4, 5}) {
		t.Error(got)
	}
}

func TestTypeNames(t *testing.T) {
	t.Parallel()
	want := map[int]string{0: "none", 1: "int", 2: "float", 3: "bool"}
	for _, kind := range slices.Concat(wrongInts, []int{-1, 0, 1, 2, 3, 4, 5, math.MinInt64, math.MaxInt64, math.MinInt64 + 2, 1 << 32, 1<<32 + 1, 1<<32 + 3, 256, 257}) {
		if got := impl.TypeName(kind); got != want[kind] {
			t.Errorf("TypeName(%d) = %q", kind, got)
		}
	}
}

// operandForms: for each letter the things that have that type.
var operandForms = map[byte][]string{
	'i': {"1", "n", "y", "j", "a [ 0 ]", "tid ( )", "- n", "( n + 1 )", "int ( f )"},
	'f': {"0.5", "f", "z", "b [ 0 ]", "- f", "( n + f )", "sqrt ( n )"},
	'b': {"true", "p", "! p", "( n < 1 )", "( p && p )"},
}

// among: a kernel in which everything of operandForms is visible around
// statements.
func among(statements string) string {
	return "kernel k ( int n , float f , buffer int a , buffer float b ) { let y = 1 ; let z = 0.5 ; let p = true ; for j in 0 .. 1 { " + statements + " } }"
}

// operandLetters: all rows of so many letters.
func operandLetters(count int) []string {
	l := []string{""}
	for range count {
		var longer []string
		for _, row := range l {
			for _, letter := range "ifb" {
				longer = append(longer, row+string(letter))
			}
		}
		l = longer
	}
	return l
}

// operationText: a sign or a call with operands.
func operationText(text string, operands []string) string {
	switch {
	case isCall(text):
		return text + " ( " + strings.Join(operands, " , ") + " )"
	case len(operands) == 1:
		return text + " " + operands[0]
	}
	return operands[0] + " " + text + " " + operands[1]
}

// heldOperation holds an operation at one row of operands, wherever its value
// may stand.
func heldOperation(t *testing.T, text, letters string, operands []string) {
	t.Helper()
	nodes := impl.ReadKernel(among("let x = " + operationText(text, operands) + " ;")).Nodes
	at := slices.Index(nodes, impl.Node{Kind: impl.NLet, Text: "x", Kids: 1})
	got := heldTyped(t, nodes)
	want := strings.IndexByte(typeLetters, wantOutcome(text, letters))
	if want == 0 && (got.Code != impl.TypKind || got.At != at+1) {
		t.Errorf("%s of %q: %v, want TypKind at %d", text, operands, got, at+1)
	}
	if want > 0 && (len(got.Types) != len(nodes) || got.Types[at] != want || got.Types[at+1] != want) {
		t.Errorf("%s of %q: %v, want %d at %d", text, operands, got, want, at+1)
	}
}

// Every sign and every call at every row of operand types, and at everything
// that has such a type.
func TestEveryOperation(t *testing.T) {
	t.Parallel()
	arity := map[string][]int{"!": {1}, "-": {1, 2}}
	for _, sign := range betweenSigns {
		if sign != "-" {
			arity[sign] = []int{2}
		}
	}
	for name, count := range wantArity {
		arity[name] = []int{count}
	}
	if len(arity) != 18+1+11 {
		t.Errorf("%d operations", len(arity))
	}
	c := newChance(81)
	for text, counts := range arity {
		for _, count := range counts {
			for _, letters := range operandLetters(count) {
				for nth := range 9 {
					operands := make([]string, count)
					for i := range operands {
						forms := operandForms[letters[i]]
						operands[i] = forms[nth%len(forms)]
						if c.Intn(2) == 0 {
							operands[i] = forms[c.Intn(len(forms))]
						}
					}
					heldOperation(t, text, letters, operands)
				}
			}
		}
	}
}

// Whatever takes one type, at everything of every type.
func TestEveryPlaceForAType(t *testing.T) {
	t.Parallel()
	wants := map[string]string{
		"a [ # ] = 1 ;": "i", "b [ # ] = 1 ;": "i", "a [ 0 ] = # ;": "i", "b [ 0 ] = # ;": "if", "y = # ;": "i", "z = # ;": "if", "p = # ;": "b",
		"let x = # ;": "ifb", "if # { }": "b", "if # { } else { }": "b", "for x in # .. 1 { }": "i", "for x in 0 .. # { }": "i", "let x = a [ # ] ;": "i", "let x = b [ # ] ;": "i",
	}
	for statement, letters := range wants {
		for letter, forms := range operandForms {
			for _, form := range forms {
				got := typedSource(t, among(strings.Replace(statement, "#", form, 1)))
				if may := strings.Contains(letters, string(letter)); may != (got.Code == 0) || !may && got.Code != impl.TypKind {
					t.Errorf("%q of %q: %v", statement, form, got)
				}
			}
		}
	}
}

// shortStatements: statements with all codes, and without, whatever is visible.
var shortStatements = []string{
	"let x = 1 ;", "let x = 0.5 ;", "let x = true ;", "let x = x ;", "let x = n ;", "let n = 1 ;", "let a = 1 ;", "let y = x ;", "let y = a ;", "let k = 1 ;", "let x = q [ 0 ] ;",
	"x = 1 ;", "x = 0.5 ;", "x = true ;", "x = x ;", "n = 1 ;", "n = true ;", "a = 1 ;", "x = a [ x ] ;", "y = x ;", "k = 1 ;",
	"a [ 0 ] = 1 ;", "a [ 0 ] = 0.5 ;", "b [ 0 ] = 1 ;", "a [ x ] = x ;", "b [ x ] = x ;", "n [ 0 ] = 1 ;", "x [ 0 ] = 1 ;", "a [ true ] = q ;", "a [ q ] = true ;",
	"barrier ;", "if true { }", "if x { }", "if 1 { }", "if q { } else { }", "if true { barrier ; } else { }", "if true { } else { barrier ; }",
	"for x in 0 .. 1 { }", "for x in x .. 1 { }", "for x in 0 .. 0.5 { }", "for n in 0 .. 1 { }", "for a in 0 .. 1 { }", "for i in 0 .. n { barrier ; }", "for i in 0 .. i { }", "for x in true .. 1 { x = 1 ; }", "for n in true .. 1 { x = 1 ; }", "for i in 0 .. 1 { let i = 1 ; }", "for i in 0 .. 1 { let x = i ; }",
}

// Each two short statements, behind one another and in one another's blocks.
func TestEveryTwoStatements(t *testing.T) {
	t.Parallel()
	around := []string{
		"# @", "if true { # } @", "if true { # @ }", "if true { # } else { @ }", "if true { } else { # } @", "for i in 0 .. 1 { # } @", "for i in 0 .. 1 { # @ }", "for x in 0 .. 1 { # } @", "if 1 { # } @", "if true { # if true { @ } }",
		"# for i in 0 .. 1 { @ }", "# if x == x { @ } else { @ }", "for x in 0.5 .. 1 { # } @", "let x = 1 ; # @", "let x = 0.5 ; if true { # } @",
	}
	codes := map[int]int{}
	for _, form := range around {
		for _, first := range shortStatements {
			for _, second := range shortStatements {
				statements := strings.ReplaceAll(strings.ReplaceAll(form, "#", first), "@", second)
				codes[typedSource(t, "kernel k ( int n , buffer int a , buffer float b ) { "+statements+" }").Code]++
			}
		}
	}
	for code := range 6 {
		if codes[code] < 100 {
			t.Errorf("code %d: %d kernels", code, codes[code])
		}
	}
}

func TestKernelsWithTypesByChance(t *testing.T) {
	t.Parallel()
	c := newChance(82)
	kinds := map[int]int{}
	for n := range 2500 {
		l := c.kernelWithTypes(n%120, 0).nodes()
		if got := heldTyped(t, l); got.Code != 0 || len(got.Types) != len(l) {
			t.Errorf("TypeKernel(%v) = %v", l, got)
		}
		for _, node := range l {
			kinds[node.Kind]++
		}
	}
	for kind := impl.NWhole; kind <= impl.NFloatBuf; kind++ {
		if kinds[kind] < 500 {
			t.Errorf("%d nodes of kind %d", kinds[kind], kind)
		}
	}
}

func TestKernelsWithFaultsByChance(t *testing.T) {
	t.Parallel()
	c := newChance(83)
	found := map[told5]int{}
	for n := range 8000 {
		l := c.kernelWithTypes(n%90, 3+n%120).nodes()
		if got := heldTyped(t, l); got.Code != 0 {
			found[told5{got.Code, l[got.At].Kind}]++
		}
	}
	for _, f := range everyFault {
		if found[f] < 4 {
			t.Errorf("code %d at a node of kind %d: %d kernels", f.code, f.at, found[f])
		}
		delete(found, f)
	}
	if len(found) > 0 {
		t.Errorf("codes at nodes that can't have them: %v", found)
	}
}

// everyFault: the codes with the kinds of nodes that can have them.
var everyFault = []told5{
	{impl.TypName, impl.NName}, {impl.TypName, impl.NLoad}, {impl.TypName, impl.NStore}, {impl.TypName, impl.NSet},
	{impl.TypTwice, impl.NWholeIn}, {impl.TypTwice, impl.NFloatIn}, {impl.TypTwice, impl.NWholeBuf}, {impl.TypTwice, impl.NFloatBuf}, {impl.TypTwice, impl.NLet}, {impl.TypTwice, impl.NFor},
	{impl.TypKind, impl.NUnary}, {impl.TypKind, impl.NBinary}, {impl.TypKind, impl.NCall}, {impl.TypKind, impl.NLoad}, {impl.TypKind, impl.NStore}, {impl.TypKind, impl.NSet}, {impl.TypKind, impl.NIf}, {impl.TypKind, impl.NFor},
	{impl.TypSet, impl.NSet}, {impl.TypBarrier, impl.NBarrier},
}

// A kernel without a fault in which one text is another one, or one node has
// another kind.
func TestKernelsWithOneChange(t *testing.T) {
	t.Parallel()
	c := newChance(84)
	for n := range 28 {
		l := c.kernelWithTypes(n, 0).nodes()
		for at := range l {
			for _, text := range []string{"a", "b", "c", "g", "x_1", "new", "-", "!", "+", "&&", "<", "%", "==", "1", "0.5", "true"} {
				k := slices.Clone(l)
				k[at].Text = text
				heldTyped(t, k)
			}
			for kind := range 22 {
				k := slices.Clone(l)
				k[at].Kind = kind
				heldTyped(t, k)
			}
		}
	}
}

// A kernel in which one expression is another one, of any type.
func TestKernelsWithOneExpressionForAnother(t *testing.T) {
	t.Parallel()
	c := newChance(85)
	for n := range 60 {
		l := c.kernelWithTypes(n, 0).nodes()
		for at, node := range l {
			if node.Kind > impl.NCall {
				continue
			}
			end := impl.NodeEnd(l, at)
			for _, other := range []string{"1 1 0", "2 0.5 0", "3 true 0", "4 a 0", "4 new 0", "5 a 1, 1 0 0", "8 tid 0", "7 < 2, 1 1 0, 2 1.5 0"} {
				heldTyped(t, slices.Concat(l[:at], nodesOf(other), l[end:]))
			}
		}
	}
}

// Kernels by chance with names and types as they come.
func TestAnyGoodKernelsHaveTypesOrAFault(t *testing.T) {
	t.Parallel()
	c := newChance(86)
	for n := range 2000 {
		heldTyped(t, c.goodKernel(n%60).nodes())
		heldTyped(t, c.anyKernel(n%200).nodes())
	}
}
