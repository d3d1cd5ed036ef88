package tests

import (
	"math"
	"regexp"
	"slices"
	"strconv"
	"strings"
	"testing"

	"loop.example/g00053/impl"
)

// The edges that chapter 4 names, with their trees, texts and places written
// out.

var kernelCodes = append(slices.Clone(codeNames), "SynToken", "SynDeep", "SynMany")

// shape: an expression by what is beneath each node: a sign or a call with its
// kids, a load with its place.
func shape(t tree) string {
	var kids []string
	for _, kid := range t.kids {
		kids = append(kids, shape(kid))
	}
	switch t.kind {
	case impl.NLoad:
		return t.text + "[" + kids[0] + "]"
	case impl.NUnary, impl.NBinary, impl.NCall:
		return t.text + "(" + strings.Join(kids, ",") + ")"
	}
	return t.text
}

// toldKernel: the fault of a source, or the nodes that were read.
func toldKernel(r impl.Parsed) string {
	if r.Code != 0 {
		return kernelCodes[r.Code] + " at " + strconv.Itoa(r.At)
	}
	var l []string
	for _, n := range r.Nodes {
		l = append(l, strings.TrimSpace(strconv.Itoa(n.Kind)+" "+n.Text)+" "+strconv.Itoa(n.Kids))
	}
	return strings.Join(l, ", ")
}

// heldKernels: a source and what is told of it, one behind the other.
func heldKernels(t *testing.T, l []string) {
	t.Helper()
	for i := 0; i < len(l); i += 2 {
		r := impl.ReadKernel(l[i])
		if got := toldKernel(r); got != l[i+1] {
			t.Errorf("ReadKernel(%q): %s, want %s", l[i], got, l[i+1])
		}
		if r.Code != 0 && len(r.Nodes) != 0 || r.Code == 0 && r.At != 0 {
			t.Errorf("ReadKernel(%q): %v", l[i], r)
		}
	}
}

// heldFaults: sources in which a mark stands ahead of the token that can't
// stand, or at the end.
func heldFaults(t *testing.T, code int, l ...string) {
	t.Helper()
	for _, marked := range l {
		ahead, behind, ok := strings.Cut(marked, "@")
		if !ok {
			t.Errorf("%q has no mark", marked)
		}
		source := ahead + behind
		at := len(source) - len(strings.TrimLeft(behind, " \n"))
		if r := impl.ReadKernel(source); r.Code != code || r.At != at || len(r.Nodes) > 0 {
			t.Errorf("ReadKernel(%q) = %v, want %d at %d", source, r, code, at)
		}
	}
}

// heldRead: sources that are read.
func heldRead(t *testing.T, l ...string) {
	t.Helper()
	for _, source := range l {
		if r := impl.ReadKernel(source); r.Code != 0 || len(r.Nodes) == 0 {
			t.Errorf("ReadKernel(%q) = %v", source, r)
		}
	}
}

// body: a kernel with statements.
func body(statements string) string { return "kernel k ( ) { " + statements + " }" }

// value: a kernel that sets x to an expression.
func value(expr string) string { return body("x = " + expr + " ;") }

func TestStatementsAsNodes(t *testing.T) {
	t.Parallel()
	heldKernels(t, []string{
		"kernel k(){}", "16 k 1, 15 0",
		"kernel größe(int a,float b,buffer int c,buffer float d){}", "16 größe 5, 17 a 0, 18 b 0, 19 c 0, 20 d 0, 15 0",
		body("let a = 1;"), "16 k 1, 15 1, 9 a 1, 1 1 0",
		body("a = 1.50;"), "16 k 1, 15 1, 10 a 1, 2 1.50 0",
		body("a[true] = x;"), "16 k 1, 15 1, 11 a 2, 3 true 0, 4 x 0",
		body("a[b[0]] = b[1];"), "16 k 1, 15 1, 11 a 2, 5 b 1, 1 0 0, 5 b 1, 1 1 0",
		body("if false {}"), "16 k 1, 15 1, 12 2, 3 false 0, 15 0",
		body("if a {} else {}"), "16 k 1, 15 1, 12 3, 4 a 0, 15 0, 15 0",
		body("if a { barrier; } else { barrier; barrier; }"), "16 k 1, 15 1, 12 3, 4 a 0, 15 1, 14 0, 15 2, 14 0, 14 0",
		body("if a {} if b {} else {}"), "16 k 1, 15 2, 12 2, 4 a 0, 15 0, 12 3, 4 b 0, 15 0, 15 0",
		body("if a { if b {} else {} }"), "16 k 1, 15 1, 12 2, 4 a 0, 15 1, 12 3, 4 b 0, 15 0, 15 0",
		body("for i in 0..n {}"), "16 k 1, 15 1, 13 i 3, 1 0 0, 4 n 0, 15 0",
		body("for i in 0.5..1.5 { i = 0; }"), "16 k 1, 15 1, 13 i 3, 2 0.5 0, 2 1.5 0, 15 1, 10 i 1, 1 0 0",
		body("barrier;"), "16 k 1, 15 1, 14 0",
		body("x = fma(1, -y, tid());"), "16 k 1, 15 1, 10 x 1, 8 fma 3, 1 1 0, 6 - 1, 4 y 0, 8 tid 0",
		body("x = a || !b;"), "16 k 1, 15 1, 10 x 1, 7 || 2, 4 a 0, 6 ! 1, 4 b 0",
		"// k\nkernel\tk\n( )\n{ // {\n}\n// }", "16 k 1, 15 0",
	})
}

// An expression, its shape, and what is shown of it.
func TestExpressionsAsTrees(t *testing.T) {
	t.Parallel()
	l := []string{
		"1 - 2 - 3", "-(-(1,2),3)", "1 - 2 - 3",
		"(1 - 2) - 3", "-(-(1,2),3)", "1 - 2 - 3",
		"1 - (2 - 3)", "-(1,-(2,3))", "1 - ( 2 - 3 )",
		"1 - 2 + 3", "+(-(1,2),3)", "1 - 2 + 3",
		"1 + (2 + 3)", "+(1,+(2,3))", "1 + ( 2 + 3 )",
		"1 + 2 * 3", "+(1,*(2,3))", "1 + 2 * 3",
		"1 + (2 * 3)", "+(1,*(2,3))", "1 + 2 * 3",
		"(1 + 2) * 3", "*(+(1,2),3)", "( 1 + 2 ) * 3",
		"1 * (2 + 3)", "*(1,+(2,3))", "1 * ( 2 + 3 )",
		"1 * 2 % 3 / 4", "/(%(*(1,2),3),4)", "1 * 2 % 3 / 4",
		"a < b == c < d", "==(<(a,b),<(c,d))", "a < b == c < d",
		"a < b < c", "<(<(a,b),c)", "a < b < c",
		"a < (b < c)", "<(a,<(b,c))", "a < ( b < c )",
		"a || b && c | d ^ e & f == g < h << i + j * k", "||(a,&&(b,|(c,^(d,&(e,==(f,<(g,<<(h,+(i,*(j,k))))))))))", "a || b && c | d ^ e & f == g < h << i + j * k",
		"a * b + c << d < e == f & g ^ h | i && j || k", "||(&&(|(^(&(==(<(<<(+(*(a,b),c),d),e),f),g),h),i),j),k)", "a * b + c << d < e == f & g ^ h | i && j || k",
		"a != b == c", "==(!=(a,b),c)", "a != b == c",
		"- - 1", "-(-(1))", "- - 1",
		"-(-(1))", "-(-(1))", "- - 1",
		"--1", "-(-(1))", "- - 1",
		"! ! a", "!(!(a))", "! ! a",
		"-!-a", "-(!(-(a)))", "- ! - a",
		"!(a && b)", "!(&&(a,b))", "! ( a && b )",
		"!a && b", "&&(!(a),b)", "! a && b",
		"(!a) && (!b)", "&&(!(a),!(b))", "! a && ! b",
		"- 1 + 2", "+(-(1),2)", "- 1 + 2",
		"-(1 + 2)", "-(+(1,2))", "- ( 1 + 2 )",
		"-(1 + 2) * 3", "*(-(+(1,2)),3)", "- ( 1 + 2 ) * 3",
		"-((1 + 2) * 3)", "-(*(+(1,2),3))", "- ( ( 1 + 2 ) * 3 )",
		"-1 * 2", "*(-(1),2)", "- 1 * 2",
		"1 - - 2", "-(1,-(2))", "1 - - 2",
		"1 - (-2)", "-(1,-(2))", "1 - - 2",
		"1--2", "-(1,-(2))", "1 - - 2",
		"1 * -(2 * 3)", "*(1,-(*(2,3)))", "1 * - ( 2 * 3 )",
		"-a[0]", "-(a[0])", "- a [ 0 ]",
		"-(a[0])", "-(a[0])", "- a [ 0 ]",
		"-a[0] * b", "*(-(a[0]),b)", "- a [ 0 ] * b",
		"a[(1 + 2)]", "a[+(1,2)]", "a [ 1 + 2 ]",
		"a[((a[(0)]))]", "a[a[0]]", "a [ a [ 0 ] ]",
		"((((x))))", "x", "x",
		"-tid()", "-(tid())", "- tid ( )",
		"-min(1 + 2, (3 - 4)) - 5", "-(-(min(+(1,2),-(3,4))),5)", "- min ( 1 + 2 , 3 - 4 ) - 5",
		"int((1.5 * 2.0))", "int(*(1.5,2.0))", "int ( 1.5 * 2.0 )",
		"float(int(float(1)))", "float(int(float(1)))", "float ( int ( float ( 1 ) ) )",
		"fma((a), (b), (c))", "fma(a,b,c)", "fma ( a , b , c )",
		"(true)", "true", "true",
		"(a + b) - (c - d)", "-(+(a,b),-(c,d))", "a + b - ( c - d )",
		"(a | b) & (c ^ d)", "&(|(a,b),^(c,d))", "( a | b ) & ( c ^ d )",
		"a << (b + c)", "<<(a,+(b,c))", "a << b + c",
		"(a << b) + c", "+(<<(a,b),c)", "( a << b ) + c",
	}
	for i := 0; i < len(l); i += 3 {
		r := impl.ReadKernel(value(l[i]))
		k, _, ok := treeAt(r.Nodes, 3)
		if !ok || shape(k) != l[i+1] {
			t.Errorf("%q is read as %v", l[i], r)
			continue
		}
		if text, ok := impl.ShowKernel(r.Nodes); !ok || text != value(l[i+2]) {
			t.Errorf("%q is shown as %q, %v", l[i], text, ok)
		}
	}
}

// What stands in a condition, a bound, a value or a place has no brackets
// around it.
func TestNoBracketsAround(t *testing.T) {
	t.Parallel()
	source := "kernel k(){let a=(1+2);a=(1-2);b[(1*2)]=(1/2);if(1<2){}for i in(1|2)..(1&2){}}"
	want := "kernel k ( ) { let a = 1 + 2 ; a = 1 - 2 ; b [ 1 * 2 ] = 1 / 2 ; if 1 < 2 { } for i in 1 | 2 .. 1 & 2 { } }"
	r := impl.ReadKernel(source)
	if text, ok := impl.ShowKernel(r.Nodes); !ok || text != want {
		t.Errorf("%q, %v, of %v", text, ok, r)
	}
}

func TestTokensThatCannotStand(t *testing.T) {
	t.Parallel()
	heldFaults(t, impl.SynToken,
		"@", " \n@", "// a@", "@k", "@int", "@( )", "@let a = 1 ;", "@{ }", "@1",
		"kernel@", "kernel @( )", "kernel @1 ( )", "kernel @if ( )", "kernel @kernel k ( ) { }", "kernel @\nlet",
		"kernel k@", "kernel k @{ }", "kernel k @)", "kernel k @k ( ) { }", "kernel k @[ ] { }",
		"kernel k (@", "kernel k ( @a )", "kernel k ( @bool a )", "kernel k ( @, int a ) { }", "kernel k ( @( ) ) { }", "kernel k ( @kernel ) { }",
		"kernel k ( int@", "kernel k ( int @)", "kernel k ( int @int a )", "kernel k ( int @buffer a )", "kernel k ( int @1 )", "kernel k ( int @let )",
		"kernel k ( buffer@", "kernel k ( buffer @a )", "kernel k ( buffer @buffer int a )", "kernel k ( buffer @bool a )", "kernel k ( buffer int @)",
		"kernel k ( int a@", "kernel k ( int a @int b )", "kernel k ( int a @; int b )", "kernel k ( int a @b )", "kernel k ( int a @[ ] )", "kernel k ( int a @: int b )",
		"kernel k ( int a ,@", "kernel k ( int a , @) { }", "kernel k ( int a , @, int b ) { }", "kernel k ( int a , @b ) { }",
		"kernel k ( )@", "kernel k ( ) @;", "kernel k ( ) @( )", "kernel k ( ) @k", "kernel k ( ) @x = 1 ;",
		"kernel k ( ) {@", "kernel k ( ) { @; }", "kernel k ( ) { @{ } }", "kernel k ( ) { @) }", "kernel k ( ) { @1 ; }", "kernel k ( ) { @- x = 1 ; }", "kernel k ( ) { @( x ) = 1 ; }",
		"kernel k ( ) { @else { } }", "kernel k ( ) { @int a ; }", "kernel k ( ) { @kernel k ( ) { } }", "kernel k ( ) { @true = 1 ; }", "kernel k ( ) { @in }",
		"kernel k ( ) { x = 1 ;@", "kernel k ( ) { x = 1 ; @; }", "kernel k ( ) { x = 1 ; @) }",
	)
}

func TestBehindAKernel(t *testing.T) {
	t.Parallel()
	heldFaults(t, impl.SynToken,
		"kernel k ( ) { } @}", "kernel k ( ) { } @;", "kernel k ( ) { } @kernel k ( ) { }", "kernel k ( ) { } @x", "kernel k ( ) { } @1", "kernel k ( ) { }@{", "kernel k ( ) { } // a\n @else { }",
	)
	heldRead(t, "kernel k ( ) { } ", "kernel k ( ) { }\n\n", "kernel k ( ) { } // }", "\tkernel k ( ) { }")
	heldKernels(t, []string{"kernel k ( ) { } #", "LexRune at 17", "kernel k ( ) { } 01", "LexNumber at 17"})
}

func TestStatementsThatCannotStand(t *testing.T) {
	t.Parallel()
	heldFaults(t, impl.SynToken,
		body("let @= 1 ;"), body("let @1 = 1 ;"), body("let @let a = 1 ;"), body("let a @;"), body("let a @== 1 ;"), body("let a = @;"), body("let a = 1 @"),
		body("let a @[ 0 ] = 1 ;"), body("let a = 1 @= 2 ;"), body("let @int a = 1 ;"), body("let a = b @, c = 1 ;"),
		body("a @;"), body("a @+ 1 ;"), body("a @== 1 ;"), body("a @: 1 ;"), body("a @( 1 ) ;"), body("a @b = 1 ;"), body("a @- = 1 ;"), body("a = @= 1 ;"), body("a = 1 @}"), body("a = 1 @a = 2 ;"),
		body("a [ @] = 1 ;"), body("a [ 0 @= 1 ;"), body("a [ 0 @) = 1 ;"), body("a [ 0 ] @;"), body("a [ 0 ] @[ 0 ] = 1 ;"), body("a [ 0 ] @+ 1 = 2 ;"), body("a [ 0 @, 1 ] = 2 ;"), body("a [ 0 ] = @;"), body("a [ 0 ] = 1 @]"),
		body("if @{ }"), body("if a @;"), body("if a @barrier ;"), body("if a @) { }"), body("if a { @else { }"), body("if a { } else @;"), body("if a { } else @if b { }"), body("if a { } else @barrier ;"),
		body("if a { } else { } @else { }"), body("if a { } @;"), body("if ( a @{ }"), body("if a @= b { }"), body("if @let a = 1 { }"),
		body("for @0 .. 1 { }"), body("for @in 0 .. 1 { }"), body("for i @= 0 .. 1 { }"), body("for i @0 .. 1 { }"), body("for i in @.. 1 { }"), body("for i in 0 @{ }"), body("for i in 0 @, 1 { }"), body("for i in 0 @: 1 { }"),
		body("for i in 0 .. @{ }"), body("for i in 0 .. 1 @.. 2 { }"), body("for i in 0 .. 1 @;"), body("for i in 0 .. 1 @barrier ;"), body("for i in 0 .. 1 { } @else { }"), body("for @( i in 0 .. 1 ) { }"), body("for i @[ 0 ] in 0 .. 1 { }"),
		body("barrier @}"), body("barrier @barrier ;"), body("barrier @( ) ;"), body("barrier @x = 1 ;"), "kernel k ( ) { barrier@", body("barrier ; @;"), body("barrier @, ;"),
	)
	heldRead(t, body(""), body("if a { }"), body("if a { } else { }"), body("for i in 0 .. 1 { }"), body("if a { if b { } else { } } else { for i in 0 .. 1 { } }"))
}

func TestExpressionsThatCannotStand(t *testing.T) {
	t.Parallel()
	heldFaults(t, impl.SynToken,
		value("@"), value("@+ 1"), value("@* 1"), value("@&& a"), value("1 @2"), value("1 @x"), value("x @1"), value("1 + @"), value("1 + @+ 1"), value("1 + @* 1"), value("1 * @/ 1"), value("1 @! 2"), value("1 != @= 2"), value("a @= b"),
		value("- @"), value("- @+ 1"), value("! @* a"), value("- - @"), value("- @)"), value("1 - @"), value("1 - - @"), value("a @!"), value("a @! b"), value("a @! = b"), value("! @= b"),
		value("( @)"), value("( 1 @"), value("( 1 @]"), value("( 1 @}"), value("1 @)"), value("( 1 ) @)"), value("( 1 ) @( 2 )"), value("( 1 ) @2"), value("( 1 ) @[ 0 ]"), value("( 1 @, 2 )"), value("( a @= 1 )"), value("( @let"),
		value("a [ @]"), value("a [ 0 @"), value("a [ 0 @)"), value("a [ 0 ] @[ 0 ]"), value("a [ 0 ] @( 0 )"), value("a [ 0 @, 1 ]"), value("1 @[ 0 ]"), value("1.5 @[ 0 ]"), value("true @[ 0 ]"), value("tid ( ) @[ 0 ]"), value("( a ) @[ 0 ]"), value("@[ 0 ]"), value("a @{ 0 }"),
		value("@let"), value("@if"), value("@in"), value("@bool"), value("@buffer"), value("@bool ( 1 )"), value("@kernel"), value("1 @else"), value("@:"), value("1 @: 2"), value("1 @.. 2"), value("@.. 2"), value("1 @, 2"),
		value("true @( )"), value("true @false"), value("1 @( 2 )"), value("1.5 @1.5"),
	)
}

// Calls are no names, and names are no calls.
func TestNamesOfCalls(t *testing.T) {
	t.Parallel()
	for _, name := range wantCalls {
		heldFaults(t, impl.SynToken,
			value(name+" @"), value(name+" @+ 1"), value(name+" @[ 0 ]"), value("1 + "+name+" @"), value("- "+name+" @"), value("( "+name+" @)"), value("a [ "+name+" @]"), value(name+" @= 1"), value(name+" @x"),
			"kernel k ( ) { x = "+name+"@", "kernel k ( ) { x = "+name+" // (@",
			body("if "+name+" @{ }"), body("for i in "+name+" @.. 1 { }"),
			body("@"+name+" = 1 ;"), body("@"+name+" [ 0 ] = 1 ;"), body("@"+name+" ( ) ;"), body("let @"+name+" = 1 ;"), body("for @"+name+" in 0 .. 1 { }"),
			"kernel @"+name+" ( ) { }", "kernel k ( int @"+name+" ) { }", "kernel k ( float @"+name+" ) { }", "kernel k ( buffer int @"+name+" ) { }", "kernel k ( buffer float @"+name+" ) { }", "kernel k ( int a , int @"+name+" ) { }",
		)
		heldRead(t, value(name+"s"), value("x"+name), value(name+"1"), body("let "+name+"_ = 1 ;"), "kernel "+name+"0 ( int _"+name+" ) { }", value(strings.ToUpper(name)))
	}
	for _, name := range []string{"x", "k", "tids", "Tid", "abs1", "largest", "größe", "min_", "sqr"} {
		heldFaults(t, impl.SynToken,
			value(name+" @( )"), value(name+" @( 1 )"), value("- "+name+" @( 1 )"), value("a [ "+name+" @( 0 ) ]"), body(name+" @( ) ;"), body("let "+name+" @( ) ;"), body("if "+name+" @( ) { }"), body("for "+name+" @( ) in 0 .. 1 { }"),
			"kernel k ( int "+name+" @( ) ) { }",
		)
		heldRead(t, value(name), value(name+" [ 0 ]"), "kernel "+name+" ( int "+name+" ) { "+name+" = "+name+" ; }")
	}
}

func TestTooFewAndTooManyInACall(t *testing.T) {
	t.Parallel()
	for _, name := range wantCalls {
		args := slices.Repeat([]string{"1"}, wantArity[name])
		heldRead(t, value(name+" ( "+strings.Join(args, " , ")+" )"))
		switch len(args) {
		case 0:
			heldFaults(t, impl.SynToken, value(name+" ( @1 )"), value(name+" ( @, )"), value(name+" ( @( ) )"), value(name+" ( @- 1 )"))
		default:
			short := strings.Join(args[1:], " , ")
			heldFaults(t, impl.SynToken, value(name+" ( @)"), value(name+" ( @, 1 )"), value(name+" ( 1 @; )"), value(name+" ( 1 @1 )"), value(name+" ( "+short+" @)"),
				value(name+" ( "+strings.Join(args, " , ")+" @, 1 )"), value(name+" ( "+strings.Join(args, " , ")+" @, )"), value(name+" ( "+strings.Join(args, " , ")+" @;"))
		}
		if len(args) > 1 {
			heldFaults(t, impl.SynToken, value(name+" ( 1 , @)"), value(name+" ( 1 , @, 1 )"), value(name+" ( 1 @)"), value(name+" ( "+strings.Join(args[1:], " , ")+" , @)"))
		}
	}
}

func TestParametersAtTheirLimit(t *testing.T) {
	t.Parallel()
	six := strings.Repeat("int a , ", 5) + "buffer float b"
	heldRead(t, "kernel k ( "+six+" ) { }", "kernel k ( int a ) { }", "kernel k ( int a , int a ) { }")
	heldFaults(t, impl.SynToken,
		"kernel k ( "+six+" @, int c ) { }", "kernel k ( "+six+" @, ) { }", "kernel k ( "+six+" @,", "kernel k ( "+six+"@", "kernel k ( "+six+" @; int c ) { }", "kernel k ( "+six+" @, 1 ) { }",
		"kernel k ( int a , int b , @) { }",
	)
}

// chain: openers, a 1, and closers, each so many times.
func chain(open, closed string, n int) string {
	return strings.Repeat(open+" ", n) + "1" + strings.Repeat(" "+closed, n)
}

// The kernel's own { is one of those that are open.
func TestDeepBrackets(t *testing.T) {
	t.Parallel()
	for _, pair := range [][2]string{{"(", ")"}, {"a [", "]"}, {"abs (", ")"}, {"float (", ")"}, {"-", ""}, {"!", ""}, {"1 + (", ")"}, {"min ( 1 ,", ")"}} {
		heldRead(t, value(chain(pair[0], pair[1], 9)))
		for _, n := range []int{10, 11, 30} {
			marked := strings.Repeat(pair[0]+" ", 9)
			last := strings.LastIndexAny(pair[0], "([-!")
			marked += pair[0][:last] + "@" + pair[0][last:]
			source := value(marked + " " + chain(pair[0], pair[1], n-10) + strings.Repeat(" "+pair[1], 10))
			heldFaults(t, impl.SynDeep, source)
		}
	}
	blocks := func(head string, n int) string { return strings.Repeat(head, n) + strings.Repeat("} ", n) }
	for _, head := range []string{"if a { ", "for i in 0 .. 1 { ", "if a { } else { "} {
		heldRead(t, body(blocks(head, 9)))
		heldFaults(t, impl.SynDeep, body(strings.Repeat(head, 9)+strings.Replace(head, "{", "@{", 1)+blocks(head, 2)))
	}
	heldFaults(t, impl.SynDeep,
		value("( - a [ ! abs ( - ( - a [ @( 1"),
		body("if a { for i in 0 .. 1 { if a { x = ( - a [ ! abs ( - @( 1 ) ) ] ) ; } } }"),
		body(strings.Repeat("if a { ", 8)+"a [ tid @( ) ] = 1 ;"), body(strings.Repeat("if a { ", 8)+"x = - @- 1"),
		body(strings.Repeat("if a { ", 9)+"x = @- 1"), body(strings.Repeat("if a { ", 9)+"x = tid @( )"), body(strings.Repeat("if a { ", 9)+"a @[ 0 ] = 1"), body(strings.Repeat("if a { ", 9)+"x = 1 - @- 1"),
	)
	heldRead(t,
		value("( - a [ ! abs ( - ( - a [ 1 ] ) ) ] )"),
		body("if a { for i in 0 .. 1 { if a { x = ( - a [ ! abs ( - 1 ) ] ) ; } } }"),
		body(strings.Repeat("if a { ", 8)+"a [ 0 ] = tid ( ) ; x = - 1 ;"+strings.Repeat(" }", 8)),
		body(strings.Repeat("if a { ", 9)+"x = 1 - 1 ; barrier ;"+strings.Repeat(" }", 9)),
	)
}

// Brackets that are closed, and signs whose operand has ended, are open no more.
func TestClosedAgain(t *testing.T) {
	t.Parallel()
	nine, signs := chain("(", ")", 9), chain("-", "", 9)
	loads, calls := chain("a [", "]", 9), chain("abs (", ")", 9)
	heldRead(t,
		value(nine+" + "+nine+" * "+nine),
		value(signs+"+ "+signs+"- "+signs),
		value(loads+" + "+signs+" && "+calls+" - "+nine),
		value(signs+" < "+nine+" - "+signs+" - "+loads),
		body("a [ "+chain("(", ")", 8)+" ] = "+nine+" ;"),
		body("if "+nine+" { x = "+chain("-", "", 8)+" ; } else { x = "+chain("(", ")", 8)+" ; } x = "+nine+" ;"),
		body("for i in "+signs+" .. "+nine+" { x = "+chain("!", "", 8)+" ; } x = "+signs+" ;"),
		value("- ( "+chain("-", "", 7)+" ) + "+nine),
		value("- a [ "+chain("(", ")", 7)+" ] + "+chain("-", "", 9)),
		value("min ( "+chain("-", "", 8)+" , "+chain("!", "", 8)+" ) + "+signs),
		value("- tid ( ) + - tid ( ) - "+nine),
		value("- x * "+nine), value("- 1.5 * "+nine), value("! true && "+nine), value("- ( 1 ) * "+nine), value("- - a [ 0 ] * "+nine), value("- abs ( 0 ) * "+nine),
		body(strings.Repeat("if a { } else { } ", 12)), body(strings.Repeat("x = ( 1 ) ; ", 12)), body(strings.Repeat("x = - 1 ; ", 12)),
		"kernel k ( int a , int b ) { x = "+nine+" ; }",
	)
	heldFaults(t, impl.SynDeep,
		value("( "+signs[:16]+"@- 1 )"), value("- ( "+strings.Repeat("( ", 7)+"@( 1"), value("- a [ "+strings.Repeat("- ", 7)+"@- 1"), value("- abs ( "+strings.Repeat("- ", 7)+"@- 1"),
		value("( - 1 + "+strings.Repeat("( ", 8)+"@( 1"), value("( 1 + - "+strings.Repeat("( ", 7)+"@( 1"), value(nine+" + "+strings.Repeat("( ", 9)+"@( 1"), value(signs+" + "+strings.Repeat("- ", 9)+"@- 1"),
	)
}

// SynToken and SynDeep in one source: the first from the left.
func TestDeepAndWrong(t *testing.T) {
	t.Parallel()
	ten := "kernel k ( ) { x = " + strings.Repeat("( ", 9)
	heldFaults(t, impl.SynDeep, ten+"@( ) ; }", ten+"@( ;", ten+"@(", ten+"@- )", ten+"@- - -", ten+"@! = 1", ten+"a @[ ]", ten+"abs @( )", ten+"tid @( 1", ten+"1 + @- + 1", ten+"1 * @( * 2")
	heldFaults(t, impl.SynToken,
		ten+"@) ( ( ( (", ten+"@[ 0", ten+"@{ }", ten+"1 @( 2 )", ten+"1 @[ 0 ]", ten+"1 @{ }", ten+"x @( ( 1", ten+"abs @[ 0", ten+"tid @- 1", ten+"@* ( 1", ten+"1 @! a", ten+"@", ten+"1@", ten+"abs@",
		"kernel k ( ) { @( "+strings.Repeat("( ", 12), "kernel k @{ "+strings.Repeat("{ ", 12), "kernel k ( ) { if a { } else @if "+strings.Repeat("( ", 12),
		body(strings.Repeat("if a { ", 9)+"@{ "), body(strings.Repeat("if a { ", 9)+"a @( ( "), body(strings.Repeat("if a { ", 9)+"if a @; { "),
	)
	heldFaults(t, impl.SynDeep, body(strings.Repeat("if a { ", 9)+"if a @{ ; "), body(strings.Repeat("if a { ", 9)+"a @[ ] "), body(strings.Repeat("if a { ", 9)+"for i in 0 .. 1 @{"))
}

// The codes of ReadTokens are told ahead of all others, wherever they are.
func TestCodesOfTokensFirst(t *testing.T) {
	t.Parallel()
	deep := value(chain("(", ")", 12))
	heldKernels(t, []string{
		") #", "LexRune at 2",
		"x 01", "LexNumber at 2",
		"x " + strings.Repeat("y", 21), "LexName at 2",
		deep + " \xff", "LexRune at " + strconv.Itoa(len(deep)+1),
		value("1") + " 2147483648", "LexNumber at " + strconv.Itoa(len(value("1"))+1),
		strings.Repeat(") ", 1001), "LexLong at 0",
		strings.Repeat(")", 401), "LexMany at 400",
		strings.Repeat(")", 400), "SynToken at 0",
		strings.Repeat(" ", 2000), "SynToken at 2000",
		strings.Repeat(" ", 2001), "LexLong at 0",
		value("-2147483648"), "LexNumber at 20",
		value("1") + strings.Repeat(" ", 2000-len(value("1"))), "16 k 1, 15 1, 10 x 1, 1 1 0",
		value("1") + strings.Repeat(" ", 2001-len(value("1"))), "LexLong at 0",
	})
}

// ones: a sum of n ones: 2 n - 1 nodes.
func ones(n int) string { return "1" + strings.Repeat("+1", n-1) }

func TestManyNodes(t *testing.T) {
	t.Parallel()
	most, more := value(ones(124)), value("- "+ones(124))
	if r := impl.ReadKernel(most); r.Code != 0 || len(r.Nodes) != 250 || !impl.GoodKernel(r.Nodes) {
		t.Errorf("250 nodes: %d, %d", r.Code, len(r.Nodes))
	}
	heldKernels(t, []string{
		more, "SynMany at 0",
		"\n" + more, "SynMany at 0",
		value(ones(125)), "SynMany at 0",
		value(ones(190)), "SynMany at 0",
		more + ";", "SynToken at " + strconv.Itoa(len(more)),
		more[:len(more)-1], "SynToken at " + strconv.Itoa(len(more)-1),
		value(ones(190) + " 1"), "SynToken at " + strconv.Itoa(len("kernel k ( ) { x = ")+380),
		body("x = " + ones(180) + " ; x = " + chain("(", ")", 10) + " ;"), "SynDeep at " + strconv.Itoa(len("kernel k ( ) { x = ")+len(ones(180))+len(" ; x = ")+18),
		more + " #", "LexRune at " + strconv.Itoa(len(more)+1),
	})
	if r := impl.ReadKernel(more); len(r.Nodes) > 0 {
		t.Error("nodes beside SynMany")
	}
}

var behindANode = regexp.MustCompile(`([0-9]), `)

// nodesOf: nodes by kinds, texts and kids, as toldKernel has them.
func nodesOf(text string) []impl.Node {
	var l []impl.Node
	for _, part := range strings.Split(behindANode.ReplaceAllString(text, "$1\n"), "\n") {
		words := strings.Fields(part)
		if len(words) < 2 {
			panic(text)
		}
		kind, _ := strconv.Atoi(words[0])
		kids, _ := strconv.Atoi(words[len(words)-1])
		l = append(l, impl.Node{Kind: kind, Text: strings.Join(words[1:len(words)-1], " "), Kids: kids})
	}
	return l
}

// notGood: trees that no source has, with what stands ahead of each.
func notGood(t *testing.T, ahead string, l ...string) {
	t.Helper()
	for _, text := range l {
		nodes := nodesOf(ahead + text)
		if impl.GoodKernel(nodes) || wantGood(nodes) {
			t.Errorf("%s%s is good", ahead, text)
		}
		if shown, ok := impl.ShowKernel(nodes); ok || shown != "" {
			t.Errorf("%s%s is shown as %q, %v", ahead, text, shown, ok)
		}
	}
}

func TestKernelsThatAreNotGood(t *testing.T) {
	t.Parallel()
	if impl.GoodKernel(nil) || impl.GoodKernel([]impl.Node{}) {
		t.Error("no nodes are a kernel")
	}
	notGood(t, "",
		"0 0", "15 0", "1 1 0", "14 0", "17 a 0", "16 k 0", "16 k 1", "16 k 1, 15 1", "16 k 2, 15 0", "16 k 1, 15 0, 14 0", "16 k 1, 15 0, 15 0", "16 k 1, 15 x 0", "16 1, 15 0",
		"16 tid 1, 15 0", "16 int 1, 15 0", "16 if 1, 15 0", "16 1 1, 15 0", "16 k 1, 14 0", "16 k 1, 1 1 0", "16 k 1, 17 a 0", "16 k 1, 16 k 1, 15 0", "16 k -1, 15 0", "16 k 1, 15 -1",
	)
	notGood(t, "16 k 2, ",
		"15 0, 17 a 0", "15 0, 15 0", "17 0, 15 0", "17 int 0, 15 0", "17 min 0, 15 0", "17 1 0, 15 0", "21 a 0, 15 0", "17 a 1, 15 0", "17 a 1, 1 1 0, 15 0", "17 a -1, 15 0",
		"4 a 0, 15 0", "14 0, 15 0", "9 a 1, 1 1 0, 15 0", "16 k 1, 15 0, 15 0", "17 a 0, 17 b 0", "17 a 0, 17 b 0, 15 0", "17 a 0", "17 a 0, 14 0",
	)
	notGood(t, "16 k 8, 17 a 0, 18 b 0, 19 c 0, 20 d 0, 17 e 0, 17 f 0, ", "17 g 0, 15 0", "15 0", "15 0, 15 0")
}

func TestStatementsThatAreNotGood(t *testing.T) {
	t.Parallel()
	notGood(t, "16 k 1, 15 1, ",
		"17 a 0", "20 a 0", "15 0", "16 k 1, 15 0", "1 1 0", "4 x 0", "8 tid 0", "7 + 2, 1 1 0, 1 1 0", "0 0",
		"14 x 0", "14 1, 14 0", "14 ; 0", "14 barrier 0", "14 -1", "14 0, 14 0",
		"9 x 0", "9 1, 1 1 0", "9 x 2, 1 1 0, 1 1 0", "9 x 1, 14 0", "9 x 1, 15 0", "9 x 1, 10 x 1, 1 1 0", "9 let 1, 1 1 0", "9 tid 1, 1 1 0", "9 x 1", "9 x 1, 1 1 0, 1 1 0",
		"10 x 0", "10 tid 1, 1 1 0", "10 x 1, 17 a 0", "10 x 1, 16 k 1, 15 0", "10 let 1, 1 1 0", "10 x 2, 1 1 0, 1 1 0", "10 1, 1 1 0",
		"11 x 1, 1 1 0", "11 x 2, 1 1 0, 14 0", "11 x 2, 15 0, 1 1 0", "11 x 3, 1 1 0, 1 1 0, 1 1 0", "11 2, 1 1 0, 1 1 0", "11 tid 2, 1 1 0, 1 1 0", "11 x 0",
		"12 0", "12 1, 1 1 0", "12 1, 15 0", "12 2, 1 1 0, 1 1 0", "12 2, 15 0, 15 0", "12 2, 15 0, 1 1 0", "12 x 2, 1 1 0, 15 0", "12 2, 1 1 0, 14 0", "12 2, 1 1 0, 15 x 0", "12 2, 1 1 0, 16 k 1, 15 0",
		"12 3, 1 1 0, 15 0, 14 0", "12 3, 1 1 0, 15 0, 12 2, 1 1 0, 15 0", "12 4, 1 1 0, 15 0, 15 0, 15 0", "12 3, 1 1 0, 1 1 0, 15 0", "12 4, 1 1 0, 1 1 0, 15 0, 15 0", "12 -1",
		"13 i 2, 1 1 0, 15 0", "13 i 2, 1 1 0, 1 1 0", "13 3, 1 1 0, 1 1 0, 15 0", "13 i 3, 1 1 0, 15 0, 15 0", "13 i 3, 15 0, 1 1 0, 15 0", "13 i 3, 1 1 0, 1 1 0, 14 0", "13 i 4, 1 1 0, 1 1 0, 15 0, 15 0", "13 in 3, 1 1 0, 1 1 0, 15 0", "13 size 3, 1 1 0, 1 1 0, 15 0", "13 i 3, 1 1 0, 1 1 0, 1 1 0",
	)
}

func TestExpressionsThatAreNotGood(t *testing.T) {
	t.Parallel()
	notGood(t, "16 k 1, 15 1, 10 x 1, ",
		"1 01 0", "1 -1 0", "1 2147483648 0", "1 1.5 0", "1 x 0", "1 0", "1 1 1, 1 1 0", "1 1 + 1 0", "1 true 0", "1 ( 1 ) 0", "1 1 -1",
		"2 1 0", "2 1. 0", "2 .5 0", "2 1.0000000000 0", "2 -1.5 0", "2 0", "2 1.5 1, 1 1 0", "3 1 0", "3 0", "3 bool 0", "3 x 0", "3 True 0", "3 true 1, 1 1 0",
		"4 true 0", "4 tid 0", "4 int 0", "4 1 0", "4 0", "4 x y 0", "4 x [ 0 ] 0", "4 x 1, 1 1 0", "4 aaaaaaaaaaaaaaaaaaaaa 0",
		"5 a 0", "5 a 2, 1 1 0, 1 1 0", "5 tid 1, 1 1 0", "5 1, 1 1 0", "5 true 1, 1 1 0", "5 a 1, 15 0", "5 a 1", "5 float 1, 1 1 0",
		"6 + 1, 1 1 0", "6 1, 1 1 0", "6 - 0", "6 - 2, 1 1 0, 1 1 0", "6 != 1, 1 1 0", "6 ( 1, 1 1 0", "6 - 1, 14 0", "6 - - 1, 1 1 0", "6 abs 1, 1 1 0",
		"7 ! 2, 1 1 0, 1 1 0", "7 = 2, 1 1 0, 1 1 0", "7 .. 2, 1 1 0, 1 1 0", "7 2, 1 1 0, 1 1 0", "7 , 2, 1 1 0, 1 1 0", "7 ; 2, 1 1 0, 1 1 0", "7 + 1, 1 1 0", "7 + 3, 1 1 0, 1 1 0, 1 1 0", "7 + 0", "7 min 2, 1 1 0, 1 1 0", "7 + 2, 1 1 0, 14 0", "7 + 2, 15 0, 1 1 0", "7 + + 2, 1 1 0, 1 1 0",
		"8 abs 0", "8 abs 2, 1 1 0, 1 1 0", "8 tid 1, 1 1 0", "8 min 1, 1 1 0", "8 min 1, 7 , 2, 1 1 0, 1 1 0", "8 fma 2, 1 1 0, 1 1 0", "8 fma 4, 1 1 0, 1 1 0, 1 1 0, 1 1 0", "8 f 0", "8 f 1, 1 1 0", "8 0", "8 bool 1, 1 1 0", "8 abs 1, 15 0", "8 tid -1", "8 - 1, 1 1 0",
		"9 x 1, 1 1 0", "14 0", "15 0", "16 k 1, 15 0", "17 a 0", "21 x 0", "0 x 0", "-1 x 0",
	)
}

// Trees at the limits of their depth and of their nodes.
func TestTreesAtTheirLimits(t *testing.T) {
	t.Parallel()
	leaf := tree{kind: impl.NWhole, text: "1"}
	deeper := map[string]func(tree) tree{
		"-":      func(t tree) tree { return tree{impl.NUnary, "-", []tree{t}} },
		"a [":    func(t tree) tree { return tree{impl.NLoad, "a", []tree{t}} },
		"abs (":  func(t tree) tree { return tree{impl.NCall, "abs", []tree{t}} },
		"1 -":    func(t tree) tree { return tree{impl.NBinary, "-", []tree{leaf, t}} },
		"* 1 ":   func(t tree) tree { return tree{impl.NBinary, "*", []tree{{impl.NBinary, "+", []tree{t, leaf}}, leaf}} },
		"- 1 * ": func(t tree) tree { return tree{impl.NUnary, "-", []tree{{impl.NBinary, "*", []tree{leaf, t}}}} },
	}
	most := map[string]int{"-": 9, "a [": 9, "abs (": 9, "1 -": 10, "* 1 ": 9, "- 1 * ": 4}
	for name, deepen := range deeper {
		e := leaf
		for n := range 40 {
			l := setTo(e).nodes()
			if got := impl.GoodKernel(l); got != (n <= most[name]) || got != wantGood(l) {
				t.Errorf("%d of %q: %v", n, name, got)
			}
			if text, ok := impl.ShowKernel(l); ok != (n <= most[name]) {
				t.Errorf("%d of %q: %q", n, name, text)
			}
			e = deepen(e)
		}
	}
	long := leaf // on the left no brackets are needed
	for n := range 140 {
		l := setTo(long).nodes()
		if got := impl.GoodKernel(l); got != (len(l) <= 250) {
			t.Errorf("%d on the left: %v", n, got)
		}
		long = tree{impl.NBinary, "-", []tree{long, leaf}}
	}
	for n := range 300 {
		l := tree{impl.NKernel, "k", []tree{{impl.NBlock, "", slices.Repeat([]tree{{kind: impl.NBarrier}}, n)}}}.nodes()
		if got := impl.GoodKernel(l); got != (n+2 <= 250) {
			t.Errorf("%d barriers: %v", n, got)
		}
	}
}

// heldLimit: a good kernel of these statements, whose text is shown or not.
func heldLimit(t *testing.T, l []tree, shown bool, bytes, tokens int) {
	t.Helper()
	nodes := tree{impl.NKernel, "k", []tree{{impl.NBlock, "", l}}}.nodes()
	text, ok := impl.ShowKernel(nodes)
	if !impl.GoodKernel(nodes) || ok != shown || !ok && text != "" {
		t.Errorf("%d bytes, %d tokens: %v", bytes, tokens, ok)
	}
	if !ok {
		return
	}
	if len(text) != bytes || len(strings.Fields(text)) != tokens {
		t.Errorf("%d bytes, %d tokens: %q", bytes, tokens, text)
	}
	if r := impl.ReadKernel(text); r.Code != 0 || !slices.Equal(r.Nodes, nodes) {
		t.Errorf("%d bytes, %d tokens are read as %v", bytes, tokens, r)
	}
}

// A text of MaxSource bytes and one more, of far less than MaxTokens tokens.
func TestShownAtMaxSource(t *testing.T) {
	t.Parallel()
	zero := tree{kind: impl.NWhole, text: "0"}
	set := func(name string) tree { return tree{impl.NSet, name, []tree{zero}} }
	twenty := strings.Repeat("é", 20)
	for bytes := 1990; bytes < 2020; bytes++ {
		l := slices.Repeat([]tree{set(twenty)}, 40)
		left := bytes - len("kernel k ( ) { }") - 40*len(twenty+" = 0 ; ")
		for n := 5; n > 0; n-- {
			l = append(l, set(strings.Repeat("a", left/n-len(" = 0 ; "))))
			left -= left / n
		}
		heldLimit(t, l, bytes <= 2000, bytes, 6+4*45)
	}
}

// A text of MaxTokens tokens and one more, of far less than MaxSource bytes.
func TestShownAtMaxTokens(t *testing.T) {
	t.Parallel()
	zero := tree{kind: impl.NWhole, text: "0"}
	two, four := tree{kind: impl.NBarrier}, tree{impl.NSet, "x", []tree{zero}}
	five := tree{impl.NSet, "x", []tree{{impl.NUnary, "-", []tree{zero}}}}
	for tokens := 380; tokens < 430; tokens++ {
		var l []tree
		bytes, left := 16, tokens-6
		if left%2 == 1 {
			l, bytes, left = append(l, five), bytes+len("x = - 0 ; "), left-5
		}
		if left%4 == 2 {
			l, bytes, left = append(l, two), bytes+len("barrier ; "), left-2
		}
		for ; left > 0; left -= 4 {
			l, bytes = append(l, four), bytes+len("x = 0 ; ")
		}
		heldLimit(t, l, tokens <= 400, bytes, tokens)
	}
}

func TestNodeEndsAtTheirEdges(t *testing.T) {
	t.Parallel()
	kids := func(l ...int) []impl.Node {
		var nodes []impl.Node
		for _, n := range l {
			nodes = append(nodes, impl.Node{Kids: n})
		}
		return nodes
	}
	for _, e := range []struct {
		l        []impl.Node
		at, want int
	}{
		{nil, 0, -1}, {nil, -1, -1}, {nil, 1, -1}, {[]impl.Node{}, 0, -1}, {nil, math.MinInt64, -1}, {nil, math.MaxInt64, -1},
		{kids(0), 0, 1}, {kids(0), 1, -1}, {kids(0), 2, -1}, {kids(0), -1, -1}, {kids(0), math.MinInt64, -1}, {kids(0), math.MaxInt64, -1},
		{kids(0, 0), 0, 1}, {kids(0, 0), 1, 2}, {kids(1), 0, -1}, {kids(1, 0), 0, 2}, {kids(1, 0), 1, 2}, {kids(1, 1), 0, -1}, {kids(1, 1), 1, -1}, {kids(2, 0), 0, -1}, {kids(2, 0, 0), 0, 3}, {kids(2, 1, 0), 0, -1}, {kids(2, 1, 0, 0, 0), 0, 4}, {kids(2, 0, 1, 0, 0), 2, 4},
		{kids(-1), 0, -1}, {kids(-1, 0), 0, -1}, {kids(-1, 0), 1, 2}, {kids(1, -1), 0, -1}, {kids(2, 0, -1), 0, -1}, {kids(2, -1, 0), 0, -1}, {kids(2, -1, 0, 0), 0, -1}, {kids(0, -1), 0, 1}, {kids(3, -2, 0, 0, 0, 0, 0), 0, -1}, {kids(1, 0, -1), 0, 2},
		{kids(math.MinInt64), 0, -1}, {kids(math.MaxInt64), 0, -1}, {kids(math.MaxInt64, math.MaxInt64, 0), 0, -1}, {kids(math.MaxInt64, 2, 0, 0), 0, -1}, {kids(2, math.MaxInt64, 0, 0), 0, -1}, {kids(2, math.MinInt64, 0, 0), 0, -1}, {kids(2, 0, math.MaxInt64), 0, -1},
		{kids(1<<62, 1<<62, 1<<62, 1<<62, 0), 0, -1}, {kids(1<<63-1, 3, 0, 0, 0), 0, -1}, {kids(0, math.MaxInt64), 0, 1}, {kids(0, math.MinInt64), 0, 1}, {kids(1<<32, 0), 0, -1}, {kids(1<<32+1, 0), 0, -1},
	} {
		if got := impl.NodeEnd(e.l, e.at); got != e.want {
			t.Errorf("NodeEnd(%v, %d) = %d, want %d", e.l, e.at, got, e.want)
		}
	}
	many := slices.Repeat(kids(1), 1000000)
	if impl.NodeEnd(many, 0) != -1 || impl.NodeEnd(append(many, kids(0)...), 0) != 1000001 || impl.NodeEnd(append(many, kids(0)...), 5) != 1000001 {
		t.Error("a million nodes beneath one another")
	}
}
