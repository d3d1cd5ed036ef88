package tests

import (
	"slices"
	"strconv"
	"strings"
	"testing"

	"loop.example/g00053/impl"
)

// The edges that chapter 5 names, with their types, codes and nodes written
// out.

var typeCodes = []string{"none", "TypName", "TypTwice", "TypKind", "TypSet", "TypBarrier"}

// label: what a node is, in a word or two.
func label(t tree) string {
	switch t.kind {
	case impl.NLet:
		return "let " + t.text
	case impl.NSet:
		return t.text + " ="
	case impl.NStore:
		return t.text + " [ ] ="
	case impl.NIf:
		return "if"
	case impl.NFor:
		return "for " + t.text
	case impl.NBarrier:
		return "barrier"
	case impl.NWholeIn, impl.NFloatIn:
		return "in " + t.text
	case impl.NWholeBuf, impl.NFloatBuf:
		return "buffer " + t.text
	}
	return shape(t)
}

// toldTypes: the letters of all types, or the fault with its node's number and
// label.
func toldTypes(l []impl.Node) string {
	got := impl.TypeKernel(l)
	if got.Code != 0 {
		node, _, _ := treeAt(l, got.At)
		return typeCodes[got.Code] + " at " + strconv.Itoa(got.At) + ": " + label(node)
	}
	letters := ""
	for _, kind := range got.Types {
		letters += typeLetters[kind : kind+1]
	}
	return letters
}

// heldTypes: a source and what is told of its types, one behind the other.
func heldTypes(t *testing.T, l []string) {
	t.Helper()
	for i := 0; i < len(l); i += 2 {
		r := impl.ReadKernel(l[i])
		if r.Code != 0 {
			t.Errorf("ReadKernel(%q) = %v", l[i], r)
		}
		if got := toldTypes(r.Nodes); got != l[i+1] {
			t.Errorf("types of %q: %s, want %s", l[i], got, l[i+1])
		}
		if got := heldTyped(t, r.Nodes); got.Code != 0 && len(got.Types) > 0 || got.Code == 0 && got.At != 0 {
			t.Errorf("TypeKernel of %q: %v", l[i], got)
		}
	}
}

// given: a kernel with parameters of each kind, whose first statement is node
// 6.
func given(statements string) string {
	return "kernel k ( int n , float f , buffer int a , buffer float b ) { " + statements + " }"
}

// A kernel with nodes of every kind.
func TestEveryNodeHasOneType(t *testing.T) {
	t.Parallel()
	source := given("let x = 1 ; let y = n + 0.5 ; let p = x < f ; y = x ; a [ x ] = a [ 0 ] ; b [ tid ( ) ] = - n ; if p && ! true { x = int ( y ) ; } else { p = false ; } for i in x .. size ( ) { let q = i ; q = i % 2 ; } barrier ;")
	l := impl.ReadKernel(source).Nodes
	got := impl.TypeKernel(l)
	if len(got.Types) != len(l) || got.Code != 0 || got.At != 0 {
		t.Errorf("TypeKernel(%v) = %v", l, got)
	}
	heldTypes(t, []string{source, "-ifif-" + "ii" + "ffif" + "bbif" + "fi" + "-iii" + "-iii" + "-bbbb-iif-bb" + "iii-iiiiii" + "-"})
	for kind := impl.NWhole; kind <= impl.NFloatBuf; kind++ {
		if !slices.ContainsFunc(l, func(n impl.Node) bool { return n.Kind == kind }) {
			t.Errorf("no node of kind %d", kind)
		}
	}
	heldTypes(t, []string{
		"kernel k(){}", "--",
		"kernel k(buffer float k){k[0]=1;}", "-f--ii",
		"kernel k(int a,int b,int c,float d,float e,float f){}", "-iiifff-",
	})
}

func TestTypesOfNamesThatAreSet(t *testing.T) {
	t.Parallel()
	heldTypes(t, []string{
		given("let x = 0.5; x = 1;"), "-ifif-" + "ff" + "fi",
		given("let x = 0.5; x = n * 2;"), "-ifif-" + "ff" + "fiii",
		given("let x = 1; x = 0.5;"), "TypKind at 8: x =",
		given("let x = 1; x = true;"), "TypKind at 8: x =",
		given("let x = 0.5; x = true;"), "TypKind at 8: x =",
		given("let x = true; x = 1;"), "TypKind at 8: x =",
		given("let x = true; x = 0.5;"), "TypKind at 8: x =",
		given("let x = true; x = n < f;"), "-ifif-" + "bb" + "bbif",
		given("a[0] = 1;"), "-ifif-" + "-ii",
		given("a[0] = 0.5;"), "TypKind at 6: a [ ] =",
		given("a[0] = true;"), "TypKind at 6: a [ ] =",
		given("b[0] = 1;"), "-ifif-" + "-ii",
		given("b[0] = 0.5;"), "-ifif-" + "-if",
		given("b[0] = false;"), "TypKind at 6: b [ ] =",
		given("a[0.5] = 1;"), "TypKind at 6: a [ ] =",
		given("b[true] = 1;"), "TypKind at 6: b [ ] =",
		given("let x = a[0.5];"), "TypKind at 7: a[0.5]",
		given("let x = b[true];"), "TypKind at 7: b[true]",
		given("let x = b[n];"), "-ifif-" + "ffi",
		given("let x = a[a[a[0]]];"), "-ifif-" + "iiiii",
		given("let x = a[b[0]];"), "TypKind at 7: a[b[0]]",
	})
}

func TestTypesOfOperations(t *testing.T) {
	t.Parallel()
	heldTypes(t, []string{
		given("let x = -true;"), "TypKind at 7: -(true)",
		given("let x = !1;"), "TypKind at 7: !(1)",
		given("let x = !0.5;"), "TypKind at 7: !(0.5)",
		given("let x = - - f;"), "-ifif-" + "ffff",
		given("let x = n + true;"), "TypKind at 7: +(n,true)",
		given("let x = true + true;"), "TypKind at 7: +(true,true)",
		given("let x = n % f;"), "TypKind at 7: %(n,f)",
		given("let x = f % n;"), "TypKind at 7: %(f,n)",
		given("let x = f << 1;"), "TypKind at 7: <<(f,1)",
		given("let x = true & true;"), "TypKind at 7: &(true,true)",
		given("let x = n && n;"), "TypKind at 7: &&(n,n)",
		given("let x = true || 1;"), "TypKind at 7: ||(true,1)",
		given("let x = true == false;"), "-ifif-" + "bbbb",
		given("let x = true == 1;"), "TypKind at 7: ==(true,1)",
		given("let x = 0.5 != false;"), "TypKind at 7: !=(0.5,false)",
		given("let x = n == f;"), "-ifif-" + "bbif",
		given("let x = true < false;"), "TypKind at 7: <(true,false)",
		given("let x = n >= f;"), "-ifif-" + "bbif",
		given("let x = abs(true);"), "TypKind at 7: abs(true)",
		given("let x = abs(n) + abs(f);"), "-ifif-" + "ffiiff",
		given("let x = min(1, true);"), "TypKind at 7: min(1,true)",
		given("let x = max(n, 2);"), "-ifif-" + "iiii",
		given("let x = max(n, f);"), "-ifif-" + "ffif",
		given("let x = fma(1, 2, 3);"), "-ifif-" + "ffiii",
		given("let x = fma(1, 2, true);"), "TypKind at 7: fma(1,2,true)",
		given("let x = fma(true, 2, 3);"), "TypKind at 7: fma(true,2,3)",
		given("let x = fma(1, true, 3);"), "TypKind at 7: fma(1,true,3)",
		given("let x = sqrt(4);"), "-ifif-" + "ffi",
		given("let x = sqrt(true);"), "TypKind at 7: sqrt(true)",
		given("let x = float(n);"), "-ifif-" + "ffi",
		given("let x = float(f);"), "-ifif-" + "fff",
		given("let x = float(true);"), "TypKind at 7: float(true)",
		given("let x = int(n);"), "-ifif-" + "iii",
		given("let x = int(f);"), "-ifif-" + "iif",
		given("let x = int(true);"), "TypKind at 7: int(true)",
		given("let x = tid() + local() + group() + size();"), "-ifif-" + "iiiiiiii",
		given("let x = 2147483647;"), "-ifif-" + "ii",
		given("let x = 1.0;"), "-ifif-" + "ff",
	})
}

func TestNamesThatAreNotVisible(t *testing.T) {
	t.Parallel()
	heldTypes(t, []string{
		given("let x = q;"), "TypName at 7: q",
		given("let x = a;"), "TypName at 7: a",
		given("let x = b + 1;"), "TypName at 8: b",
		given("let x = k;"), "TypName at 7: k",
		given("let x = q[0];"), "TypName at 7: q[0]",
		given("let x = n[0];"), "TypName at 7: n[0]",
		given("let x = f[0];"), "TypName at 7: f[0]",
		given("let x = 1; let y = x[0];"), "TypName at 9: x[0]",
		given("for i in 0 .. 1 { let y = i[0]; }"), "TypName at 11: i[0]",
		given("let x = k[0];"), "TypName at 7: k[0]",
		given("q[0] = 1;"), "TypName at 6: q [ ] =",
		given("n[0] = 1;"), "TypName at 6: n [ ] =",
		given("f[0] = 1;"), "TypName at 6: f [ ] =",
		given("let x = 1; x[0] = 1;"), "TypName at 8: x [ ] =",
		given("for i in 0 .. 1 { i[0] = 1; }"), "TypName at 10: i [ ] =",
		given("q = 1;"), "TypName at 6: q =",
		given("a = 1;"), "TypName at 6: a =",
		given("b = 0.5;"), "TypName at 6: b =",
		given("k = 1;"), "TypName at 6: k =",
		"kernel k ( ) { x = 1; }", "TypName at 2: x =",
	})
}

func TestNamesThatAreThereTwice(t *testing.T) {
	t.Parallel()
	heldTypes(t, []string{
		"kernel k(int n, int n) { }", "TypTwice at 2: in n",
		"kernel k(int n, float n) { }", "TypTwice at 2: in n",
		"kernel k(float n, buffer int n) { }", "TypTwice at 2: buffer n",
		"kernel k(buffer int n, buffer float n) { }", "TypTwice at 2: buffer n",
		"kernel k(buffer int n, int n) { }", "TypTwice at 2: in n",
		"kernel k(buffer int n, float m, buffer float l, float n) { }", "TypTwice at 4: in n",
		"kernel k(int a, int b, int c, int b, int a) { }", "TypTwice at 4: in b",
		"kernel k(int k) { }", "-i-",
		"kernel k(int k, int k) { }", "TypTwice at 2: in k",
		"kernel k() { let k = 1; }", "--ii",
		"kernel k() { for k in 0 .. 1 { } }", "--iii-",
		given("let n = 1;"), "TypTwice at 6: let n",
		given("let f = 1;"), "TypTwice at 6: let f",
		given("let a = 1;"), "TypTwice at 6: let a",
		given("let b = 1;"), "TypTwice at 6: let b",
		given("let x = 1; let x = 1;"), "TypTwice at 8: let x",
		given("let x = 1; if true { let x = 1; }"), "TypTwice at 11: let x",
		given("let x = 1; if true { } else { let x = 1; }"), "TypTwice at 12: let x",
		given("let x = 1; for i in 0 .. 1 { let x = 1; }"), "TypTwice at 12: let x",
		given("for n in 0 .. 1 { }"), "TypTwice at 6: for n",
		given("for a in 0 .. 1 { }"), "TypTwice at 6: for a",
		given("for b in 0 .. 1 { }"), "TypTwice at 6: for b",
		given("let x = 1; for x in 0 .. 1 { }"), "TypTwice at 8: for x",
		given("for i in 0 .. 1 { for i in 0 .. 1 { } }"), "TypTwice at 10: for i",
		given("for i in 0 .. 1 { let i = 1; }"), "TypTwice at 10: let i",
		given("for i in 0 .. 1 { if true { let i = 1; } }"), "TypTwice at 13: let i",
	})
}

func TestConditionsAndBounds(t *testing.T) {
	t.Parallel()
	heldTypes(t, []string{
		given("if n { }"), "TypKind at 6: if",
		given("if f { }"), "TypKind at 6: if",
		given("if 1 { } else { }"), "TypKind at 6: if",
		given("if true { if 0.5 { } }"), "TypKind at 9: if",
		given("for i in f .. 1 { }"), "TypKind at 6: for i",
		given("for i in 0 .. f { }"), "TypKind at 6: for i",
		given("for i in true .. 1 { }"), "TypKind at 6: for i",
		given("for i in 0 .. false { }"), "TypKind at 6: for i",
		given("for i in true .. false { }"), "TypKind at 6: for i",
		given("for i in n .. a[0] { let x = i; let y = i + f; }"), "-ifif-" + "iiii-" + "ii" + "ffif",
		given("for i in 5 .. 0 { a[i] = i; b[i] = i; }"), "-ifif-" + "iii-" + "-ii" + "-ii",
	})
}

func TestWhatMayNotBeSet(t *testing.T) {
	t.Parallel()
	heldTypes(t, []string{
		given("n = 1;"), "TypSet at 6: n =",
		given("f = 1;"), "TypSet at 6: f =",
		given("f = 0.5;"), "TypSet at 6: f =",
		given("for i in 0 .. 1 { i = 1; }"), "TypSet at 10: i =",
		given("for i in 0 .. 1 { if true { i = 1; } }"), "TypSet at 13: i =",
		given("n = 0.5;"), "TypKind at 6: n =",
		given("n = true;"), "TypKind at 6: n =",
		given("f = true;"), "TypKind at 6: f =",
		given("for i in 0 .. 1 { i = 0.5; }"), "TypKind at 10: i =",
		given("n = q;"), "TypName at 7: q",
		given("n = n + true;"), "TypKind at 7: +(n,true)",
		given("for i in 0 .. 1 { } let i = 1; i = 2;"), "-ifif-" + "iii-" + "ii" + "ii",
	})
}

func TestBarriers(t *testing.T) {
	t.Parallel()
	heldTypes(t, []string{
		given("barrier;"), "-ifif-" + "-",
		given("barrier; barrier;"), "-ifif-" + "--",
		given("if true { barrier; }"), "TypBarrier at 9: barrier",
		given("if true { } else { barrier; }"), "TypBarrier at 10: barrier",
		given("for i in 0 .. 1 { barrier; }"), "TypBarrier at 10: barrier",
		given("if true { if true { barrier; } }"), "TypBarrier at 12: barrier",
		given("for i in 0 .. 1 { for j in 0 .. 1 { barrier; } }"), "TypBarrier at 14: barrier",
		given("if true { } barrier;"), "-ifif-" + "-b-" + "-",
		given("for i in 0 .. 1 { } barrier; if true { } else { } barrier;"), "-ifif-" + "iii-" + "-" + "-b--" + "-",
		given("if true { } barrier; if true { barrier; }"), "TypBarrier at 13: barrier",
	})
}

func TestWhatIsVisible(t *testing.T) {
	t.Parallel()
	heldTypes(t, []string{
		given("let x = x;"), "TypName at 7: x",
		given("let x = 1; let y = x;"), "-ifif-" + "ii" + "ii",
		given("let y = x; let x = 1;"), "TypName at 7: x",
		given("x = 1; let x = 1;"), "TypName at 6: x =",
		given("if true { let x = 1; x = 2; } x = 1;"), "TypName at 13: x =",
		given("if true { let x = 1; } let y = x;"), "TypName at 12: x",
		given("if true { let x = 1; } else { x = 1; }"), "TypName at 12: x =",
		given("if true { let x = 1; } else { let x = 0.5; x = 1; }"), "-ifif-" + "-b-" + "ii" + "-" + "ff" + "fi",
		given("if true { let x = 1; } let x = true; x = false;"), "-ifif-" + "-b-" + "ii" + "bb" + "bb",
		given("if true { let x = 1; } if true { let x = 0.5; }"), "-ifif-" + "-b-" + "ii" + "-b-" + "ff",
		given("if true { if true { let x = 1; } let x = 0.5; }"), "-ifif-" + "-b-" + "-b-" + "ii" + "ff",
		given("for i in 0 .. 1 { let x = i; } let x = 0.5; let y = x;"), "-ifif-" + "iii-" + "ii" + "ff" + "ff",
		given("for i in 0 .. 1 { let x = i; x = x + 1; } a[0] = x;"), "TypName at 18: x",
		given("let x = 1; if true { x = 2; let y = x; } x = 3;"), "-ifif-" + "ii" + "-b-" + "ii" + "ii" + "ii",
		given("let x = 1; if true { let y = 1; } x = 3; let y = x;"), "-ifif-" + "ii" + "-b-" + "ii" + "ii" + "ii",
		given("let x = 1; if true { let y = 1; let z = 1; } let y = 0.5; let z = 0.5; x = 2;"), "-ifif-" + "ii" + "-b-" + "ii" + "ii" + "ff" + "ff" + "ii",
		given("let x = 1; if true { } let x = 2;"), "TypTwice at 11: let x",
		given("if x { let x = true; }"), "TypName at 7: x",
		given("if n == 1 { a[n] = n; b[n] = f; }"), "-ifif-" + "-bii-" + "-ii" + "-if",
	})
}

func TestWhatIsVisibleInLoops(t *testing.T) {
	t.Parallel()
	heldTypes(t, []string{
		given("for i in i .. 1 { }"), "TypName at 7: i",
		given("for i in 0 .. i { }"), "TypName at 8: i",
		given("for i in 0 .. 1 { } let x = i;"), "TypName at 11: i",
		given("for i in 0 .. 1 { } i = 1;"), "TypName at 10: i =",
		given("for i in 0 .. 1 { } let i = 0.5; i = 1;"), "-ifif-" + "iii-" + "ff" + "fi",
		given("for i in 0 .. 1 { } for i in 0 .. 1 { a[i] = i; }"), "-ifif-" + "iii-" + "iii-" + "-ii",
		given("for i in 0 .. 1 { for j in i .. i { a[i] = j; } }"), "-ifif-" + "iii-" + "iii-" + "-ii",
		given("for i in 0 .. 1 { for j in 0 .. 1 { } a[i] = 1; }"), "-ifif-" + "iii-" + "iii-" + "-ii",
		given("for i in 0 .. 1 { for j in 0 .. 1 { } a[j] = 1; }"), "TypName at 15: j",
		given("for i in 0 .. 1 { if true { let x = i; } x = 1; }"), "TypName at 15: x =",
		given("for i in 0 .. 1 { let x = 1; } for i in 0 .. 1 { let x = 0.5; }"), "-ifif-" + "iii-" + "ii" + "iii-" + "ff",
		given("for i in 0 .. 1 { let x = 1; } for x in 0 .. 1 { }"), "-ifif-" + "iii-" + "ii" + "iii-",
		given("let x = 0.5; for i in 0 .. 1 { x = i; } x = 1;"), "-ifif-" + "ff" + "iii-" + "fi" + "fi",
		given("for x in 0 .. 1 { } let x = 0.5; for y in 0 .. x { }"), "TypKind at 12: for y",
	})
}

// Two faults and more in one kernel: nodes are looked at behind their kids.
func TestTheFirstFault(t *testing.T) {
	t.Parallel()
	heldTypes(t, []string{
		given("let n = q;"), "TypName at 7: q",
		given("let n = 1 + true;"), "TypKind at 7: +(1,true)",
		given("let n = q[true];"), "TypName at 7: q[true]",
		given("let x = q[z];"), "TypName at 8: z",
		given("let x = q[1 + true];"), "TypKind at 8: +(1,true)",
		given("let x = (1 + true) + q;"), "TypKind at 8: +(1,true)",
		given("let x = q + (1 + true);"), "TypName at 8: q",
		given("let x = (1 + true) + (2 + false);"), "TypKind at 8: +(1,true)",
		given("let x = true + (2 + false);"), "TypKind at 9: +(2,false)",
		given("let x = fma(true, q, z);"), "TypName at 9: q",
		given("let x = fma(true, 1, z);"), "TypName at 10: z",
		given("q[z] = y;"), "TypName at 7: z",
		given("q[0] = y;"), "TypName at 8: y",
		given("q[true] = true;"), "TypName at 6: q [ ] =",
		given("a[true] = q;"), "TypName at 8: q",
		given("q = z;"), "TypName at 7: z",
		given("n = z;"), "TypName at 7: z",
		given("if q { barrier; }"), "TypName at 7: q",
		given("if 1 { barrier; }"), "TypBarrier at 9: barrier",
		given("if 1 { } else { barrier; }"), "TypBarrier at 10: barrier",
		given("if 1 { q = 1; } else { barrier; }"), "TypName at 9: q =",
		given("if 1 { } q = 1;"), "TypKind at 6: if",
		given("if 1 + true { q = 1; }"), "TypKind at 7: +(1,true)",
		given("if 1 { if 2 { } }"), "TypKind at 9: if",
		"kernel k(int n, int n) { q = 1; }", "TypTwice at 2: in n",
		given("barrier; n = 1; q = 1;"), "TypSet at 7: n =",
		given("q = 1; n = 1;"), "TypName at 6: q =",
	})
}

func TestTheFirstFaultOfALoop(t *testing.T) {
	t.Parallel()
	heldTypes(t, []string{
		given("for n in q .. 1 { }"), "TypName at 7: q",
		given("for n in 0 .. q { }"), "TypName at 8: q",
		given("for n in q .. z { }"), "TypName at 7: q",
		given("for n in 1 + true .. q { barrier; }"), "TypKind at 7: +(1,true)",
		given("for n in true .. 1 { }"), "TypTwice at 6: for n",
		given("for n in 0 .. 1 { barrier; }"), "TypTwice at 6: for n",
		given("for n in 0 .. true { q = 1; }"), "TypTwice at 6: for n",
		given("for a in 0 .. true { q = 1; }"), "TypTwice at 6: for a",
		given("for i in true .. 1 { barrier; }"), "TypBarrier at 10: barrier",
		given("for i in 0 .. true { q = 1; }"), "TypName at 10: q =",
		given("for i in 0.5 .. 1 { i = 1; }"), "TypSet at 10: i =",
		given("for i in 0.5 .. 1 { i = 0.5; }"), "TypKind at 10: i =",
		given("for i in true .. 1 { a[i] = i; } q = 1;"), "TypKind at 6: for i",
		given("for i in true .. 1 { let i = 1; }"), "TypTwice at 10: let i",
		given("for i in true .. 1 { for i in 0 .. 1 { } }"), "TypTwice at 10: for i",
		given("for i in true .. 1 { for j in true .. 1 { } }"), "TypKind at 10: for j",
		given("for i in 0 .. 1 { } for n in 0 .. 1 { }"), "TypTwice at 10: for n",
	})
}

// faultyStatement: a statement with one fault, behind those of which it leans on
// nothing, and how many nodes ahead of the faulty one it has.
type faultyStatement struct {
	text        string
	code, ahead int
}

var faultyStatements = []faultyStatement{
	{"let u = q ;", impl.TypName, 1}, {"let u = a ;", impl.TypName, 1}, {"let u = 1 + q ;", impl.TypName, 3}, {"let u = n [ 0 ] ;", impl.TypName, 1}, {"n [ 0 ] = 1 ;", impl.TypName, 0}, {"q = 1 ;", impl.TypName, 0}, {"a = 1 ;", impl.TypName, 0},
	{"let n = 1 ;", impl.TypTwice, 0}, {"let a = 1 ;", impl.TypTwice, 0}, {"for f in 0 .. 1 { }", impl.TypTwice, 0}, {"for u in 0 .. 1 { let u = 1 ; }", impl.TypTwice, 4},
	{"let u = - true ;", impl.TypKind, 1}, {"let u = ! 1 ;", impl.TypKind, 1}, {"let u = 1 < ( 2 < 3 ) ;", impl.TypKind, 1}, {"let u = abs ( true ) ;", impl.TypKind, 1}, {"let u = a [ f ] ;", impl.TypKind, 1}, {"a [ 0 ] = f ;", impl.TypKind, 0}, {"n = true ;", impl.TypKind, 0}, {"if n { }", impl.TypKind, 0}, {"for u in f .. 1 { }", impl.TypKind, 0}, {"for u in 0 .. f { let v = u ; }", impl.TypKind, 0},
	{"n = 1 ;", impl.TypSet, 0}, {"for u in 0 .. 1 { u = 1 ; }", impl.TypSet, 4},
	{"if true { barrier ; }", impl.TypBarrier, 3}, {"if true { } else { barrier ; }", impl.TypBarrier, 4}, {"for u in 0 .. 1 { barrier ; }", impl.TypBarrier, 4},
}

// Each two faults in one kernel, in each order: what stands ahead is told.
func TestEachTwoFaultsInEachOrder(t *testing.T) {
	t.Parallel()
	around := map[string]int{ // with how many nodes there are ahead of the first statement
		"# @": 6, "if true { # } @": 9, "if true { # @ }": 9, "if true { } else { # @ }": 10, "if true { # } else { @ }": 9, "for w in 0 .. 1 { # @ }": 10, "for w in 0 .. 1 { # } @": 10,
		"if 1 { # } @": 9, "if 1 { } else { # } @": 10, "for w in f .. 1 { # } @": 10, "for w in 0 .. true { # @ }": 10, "let w = 1 ; # @": 8, "barrier ; # if q { @ }": 7,
		"if true { let w = 1 ; } # @": 11, "for w in 0 .. 1 { let v = w ; } # @": 12, "# let n = q ; @": 6, "# for n in q .. 1 { @ }": 6, "# for w in 0 .. 1 { @ }": 6,
	}
	for form, ahead := range around {
		for _, first := range faultyStatements {
			for _, second := range faultyStatements {
				statements := strings.Replace(strings.Replace(form, "#", first.text, 1), "@", second.text, 1)
				got := typedSource(t, given(statements))
				if got.Code != first.code || got.At != ahead+first.ahead || len(got.Types) > 0 {
					t.Errorf("types of %q: %v, want %d at %d", statements, got, first.code, ahead+first.ahead)
				}
			}
		}
	}
	if len(faultyStatements) != 26 {
		t.Errorf("%d faulty statements", len(faultyStatements))
	}
}

// heldNames: a source, its names, and how many loops stand within one another.
func heldNames(t *testing.T, source, names string, loops int) {
	t.Helper()
	l := impl.ReadKernel(source).Nodes
	if got := impl.NamesOf(l); strings.Join(got, " ") != names || names == "" && len(got) > 0 {
		t.Errorf("NamesOf %q: %q, want %q", source, got, names)
	}
	if got := impl.LoopsOf(l); got != loops {
		t.Errorf("LoopsOf %q: %d, want %d", source, got, loops)
	}
}

func TestNamesAndLoops(t *testing.T) {
	t.Parallel()
	heldNames(t, given(""), "", 0)
	heldNames(t, given("a[0] = n; barrier; if true { }"), "", 0)
	heldNames(t, given("let x = 1; x = 2; let größe = x;"), "x größe", 0)
	heldNames(t, given("for i in 0 .. 1 { }"), "i", 1)
	heldNames(t, given("for i in 0 .. 1 { } for i in 0 .. 1 { } for i in 0 .. 1 { }"), "i i i", 1)
	heldNames(t, given("for i in 0 .. 1 { let z = 1; } let z = 1; for a1 in 0 .. 1 { }"), "i z z a1", 1)
	heldNames(t, given("for i in 0 .. 1 { for j in 0 .. 1 { let x = 1; } let x = 2; }"), "i j x x", 2)
	heldNames(t, given("for i in 0 .. 1 { for j in 0 .. 1 { } for j in 0 .. 1 { } }"), "i j j", 2)
	heldNames(t, given("for i in 0 .. 1 { } for i in 0 .. 1 { for j in 0 .. 1 { } } for i in 0 .. 1 { }"), "i i j i", 2)
	heldNames(t, given("for i in 0 .. 1 { for j in 0 .. 1 { for l in 0 .. 1 { } } } for i in 0 .. 1 { for j in 0 .. 1 { } }"), "i j l i j", 3)
	heldNames(t, given("if true { for i in 0 .. 1 { if true { } else { for j in 0 .. 1 { } } } } else { for i in 0 .. 1 { } }"), "i j i", 2)
	heldNames(t, given("for h in 0 .. 1 { for c in 0 .. 1 { for d in 0 .. 1 { for e in 0 .. 1 { for g in 0 .. 1 { for i in 0 .. 1 { for j in 0 .. 1 { for l in 0 .. 1 { for m in 0 .. 1 { let o = m; } } } } } } } } }"), "h c d e g i j l m o", 9)
}

// A kernel with a fault has no names and no loops, wherever the fault is.
func TestNamesAndLoopsBesideAFault(t *testing.T) {
	t.Parallel()
	for _, fault := range faultyStatements {
		for _, form := range []string{"let x = 1 ; for i in 0 .. 1 { } #", "# let x = 1 ; for i in 0 .. 1 { }", "for i in 0 .. 1 { let x = 1 ; # }", "for i in 0 .. 1 { for j in 0 .. 1 { } } if true { # }"} {
			heldNames(t, given(strings.Replace(form, "#", fault.text, 1)), "", 0)
		}
	}
	heldNames(t, "kernel k(int n, int n) { let x = 1; for i in 0 .. 1 { } }", "", 0)
	heldNames(t, "kernel k() { let x = 1; for i in 0 .. 1 { } ", "", 0)
}
