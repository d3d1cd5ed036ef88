package tests

import (
	"slices"
	"strings"
	"testing"

	"loop.example/g00053/impl"
)

// rowsOf: by a name its words: "x: y z, y:".
func rowsOf(text string) web {
	w := web{}
	for _, row := range strings.Split(text, ",") {
		if name, words, ok := strings.Cut(row, ":"); ok {
			w[strings.TrimSpace(name)] = strings.Fields(words)
		}
	}
	return w
}

// leansAre: of statements on what each name leans.
func leansAre(t *testing.T, statements, uses string) []impl.Node {
	t.Helper()
	r := impl.ReadKernel(given(statements))
	if r.Code != 0 || impl.TypeKernel(r.Nodes).Code != 0 {
		t.Fatalf("%q is no kernel with types: %v", statements, r)
	}
	want := rowsOf(uses)
	names := slices.Compact(slices.Sorted(slices.Values(impl.NamesOf(r.Nodes))))
	if !slices.Equal(names, want.names()) {
		t.Errorf("%q has the names %q, want %q", statements, names, want.names())
	}
	for name, words := range want {
		if got := impl.UsesOf(r.Nodes, name); !slices.Equal(got, words) {
			t.Errorf("%q: %s leans on %q, want %q", statements, name, got, words)
		}
	}
	heldVary(t, r.Nodes)
	return r.Nodes
}

// variesBy: of statements the names that vary, and the chain of each.
func variesBy(t *testing.T, statements, whys string) {
	t.Helper()
	r := impl.ReadKernel(given(statements))
	if r.Code != 0 || impl.TypeKernel(r.Nodes).Code != 0 {
		t.Fatalf("%q is no kernel with types: %v", statements, r)
	}
	want := rowsOf(whys)
	if got := impl.VaryingNames(r.Nodes); !slices.Equal(got, want.names()) {
		t.Errorf("%q: %q vary, want %q", statements, got, want.names())
	}
	for _, name := range impl.NamesOf(r.Nodes) {
		heldWhy(t, r.Nodes, name, want[name])
	}
	heldVary(t, r.Nodes)
}

func TestLeaningByExpressions(t *testing.T) {
	t.Parallel()
	leansAre(t, "", "")
	leansAre(t, "let x = 1 ;", "x:")
	leansAre(t, "let x = tid ( ) ;", "x: tid")
	leansAre(t, "let x = local ( ) ;", "x: local")
	leansAre(t, "let x = tid ( ) + local ( ) * tid ( ) ;", "x: local tid")
	leansAre(t, "let x = group ( ) + size ( ) ;", "x:")
	leansAre(t, "let x = n + f ; let y = n ;", "x:, y:")
	leansAre(t, "let x = 1 ; let y = 2 ; let z = y + x + y ;", "x:, y:, z: x y")
	leansAre(t, "let x = 1 ; let y = - x ; let z = ! ( x == y ) ; let w = max ( x , abs ( y ) ) ; let v = fma ( f , x , sqrt ( w ) ) ;", "x:, y: x, z: x y, w: x y, v: w x")
	leansAre(t, "let x = - tid ( ) ; let y = float ( local ( ) ) ; let z = ! ( 0 < tid ( ) ) ;", "x: tid, y: local, z: tid")
	leansAre(t, "let p = true ; let q = p && ! p || 1 == n ;", "p:, q: p")
}

// A load counts by what stands in its place, not by its buffer.
func TestLeaningByLoads(t *testing.T) {
	t.Parallel()
	leansAre(t, "let x = a [ 0 ] ;", "x:")
	leansAre(t, "let x = a [ n ] + b [ size ( ) ] ;", "x:")
	leansAre(t, "let x = a [ tid ( ) ] ;", "x: tid")
	leansAre(t, "let x = 1 ; let y = a [ x ] ; let z = b [ a [ y + local ( ) ] ] ;", "x:, y: x, z: local y")
}

// What is stored leans on nothing: a buffer is no name here.
func TestStoresDoNotLean(t *testing.T) {
	t.Parallel()
	leansAre(t, "let x = 1 ; let y = 2 ; a [ tid ( ) ] = x ; a [ y ] = tid ( ) ; let z = a [ 0 ] ;", "x:, y:, z:")
	leansAre(t, "let x = 1 ; if tid ( ) == 0 { a [ x ] = x ; }", "x:")
	leansAre(t, "let x = 1 ; barrier ; if x == tid ( ) { } else { }", "x:")
}

func TestLeaningByWhatIsSet(t *testing.T) {
	t.Parallel()
	leansAre(t, "let x = 1 ; x = tid ( ) ;", "x: tid")
	leansAre(t, "let x = tid ( ) ; x = 1 ;", "x: tid")
	leansAre(t, "let x = 1 ; let y = 2 ; let z = 3 ; x = y ; x = z ; x = local ( ) ;", "x: local y z, y:, z:")
	leansAre(t, "let x = 1 ; let y = x ; x = y ;", "x: y, y: x")
	leansAre(t, "let x = 1 ; x = x + 1 ;", "x: x")
	leansAre(t, "let x = 1 ; x = x * x + x ; let y = x ;", "x: x, y: x")
	leansAre(t, "let x = f ; x = 1 ; x = a [ tid ( ) ] ;", "x: tid")
}

func TestLeaningByBounds(t *testing.T) {
	t.Parallel()
	leansAre(t, "for i in 0 .. n { }", "i:")
	leansAre(t, "for i in tid ( ) .. 8 { }", "i: tid")
	leansAre(t, "for i in 0 .. local ( ) { }", "i: local")
	leansAre(t, "let x = 1 ; let y = 2 ; for i in x .. a [ y ] { }", "x:, y:, i: x y")
	leansAre(t, "let x = 1 ; for i in x + 1 .. x - tid ( ) { let z = i ; }", "x:, i: tid x, z: i tid x")
}

// What is set in a block leans on the bounds around it, but on the loop's name
// only where that stands in its expression.
func TestLeaningByBoundsAround(t *testing.T) {
	t.Parallel()
	leansAre(t, "let x = 1 ; for i in 0 .. tid ( ) { x = 2 ; }", "x: tid, i: tid")
	leansAre(t, "let x = 1 ; for i in local ( ) .. 9 { x = i ; }", "x: i local, i: local")
	leansAre(t, "let x = 1 ; let y = 2 ; for i in 0 .. y { for j in x .. 1 { let z = 1 ; } let w = 1 ; } let v = 1 ;", "x:, y:, i: y, j: x y, z: x y, w: y, v:")
	leansAre(t, "let x = 1 ; for i in 0 .. x { x = x + 1 ; }", "x: x, i: x")
	leansAre(t, "let x = 1 ; for i in 0 .. 4 { for j in i .. 4 { x = 2 ; } }", "x: i, i:, j: i")
}

func TestLeaningByConditionsAround(t *testing.T) {
	t.Parallel()
	leansAre(t, "let x = 1 ; if tid ( ) == 0 { x = 2 ; }", "x: tid")
	leansAre(t, "let x = 1 ; if tid ( ) == 0 { } else { x = 2 ; }", "x: tid")
	leansAre(t, "let x = 1 ; let y = 1 ; if local ( ) < n { x = 2 ; } else { y = 2 ; }", "x: local, y: local")
	leansAre(t, "if tid ( ) == 0 { let x = 1 ; } else { let y = 2 ; }", "x: tid, y: tid")
	leansAre(t, "if tid ( ) == 0 { for i in 0 .. 1 { } }", "i: tid")
	leansAre(t, "let p = true ; let q = false ; if p { } else { for i in 0 .. 1 { if q { let x = 1 ; } } }", "p:, q:, i: p, x: p q")
	leansAre(t, "let x = 1 ; if x == 1 { x = 2 ; }", "x: x")
	leansAre(t, "if a [ tid ( ) ] == 0 { let x = 1 ; }", "x: tid")
	leansAre(t, "if group ( ) == n { let x = size ( ) ; }", "x:")
}

// Several deep, in each order: all that is around counts.
func TestLeaningByAllAround(t *testing.T) {
	t.Parallel()
	leansAre(t, "let x = 1 ; let y = 2 ; let z = 3 ; let w = 4 ; if x == 1 { if y == 1 { } else { if z == 1 { w = 5 ; } } }", "x:, y:, z:, w: x y z")
	leansAre(t, "let x = 1 ; let y = 2 ; let z = 3 ; let w = 4 ; if x == 1 { for i in y .. 9 { if z == 1 { for j in local ( ) .. w { w = 5 ; } } } }", "x:, y:, z:, w: local w x y z, i: x y, j: local w x y z")
	leansAre(t, "if tid ( ) == 0 { if true { if true { if true { if true { if true { if true { if true { if local ( ) == 0 { let x = 1 ; } } } } } } } } }", "x: local tid")
}

// Behind a block its condition counts no more, nor within the other one's blocks.
func TestLeaningBehindABlock(t *testing.T) {
	t.Parallel()
	leansAre(t, "let x = 1 ; if tid ( ) == 0 { } x = 2 ;", "x:")
	leansAre(t, "let x = 1 ; if tid ( ) == 0 { } else { } x = 2 ;", "x:")
	leansAre(t, "let x = 1 ; for i in 0 .. tid ( ) { } x = 2 ;", "x:, i: tid")
	leansAre(t, "let x = 1 ; if tid ( ) == 0 { } if local ( ) == 0 { x = 2 ; } if tid ( ) == 0 { }", "x: local")
	leansAre(t, "let x = 1 ; let p = true ; if p { if tid ( ) == 0 { let y = 1 ; } x = 2 ; }", "x: p, p:, y: p tid")
	leansAre(t, "let x = 1 ; let p = true ; if p { if tid ( ) == 0 { } } else { x = 2 ; }", "x: p, p:")
	leansAre(t, "let x = 1 ; let p = true ; for i in 0 .. 1 { for j in 0 .. tid ( ) { } if p { x = 2 ; } }", "x: p, p:, i:, j: tid")
}

// Names of one text are one, wherever they stand, and of whatever type.
func TestLeaningOfNamesOfOneText(t *testing.T) {
	t.Parallel()
	leansAre(t, "if true { let x = tid ( ) ; } let x = 1 ;", "x: tid")
	leansAre(t, "if true { let x = tid ( ) ; } else { let x = local ( ) ; }", "x: local tid")
	leansAre(t, "let y = 1 ; for i in 0 .. y { } for i in 0 .. tid ( ) { }", "y:, i: tid y")
	leansAre(t, "for x in 0 .. tid ( ) { } let x = 1 ; let y = x ;", "x: tid, y: x")
	leansAre(t, "if true { let x = 1.5 ; let y = x ; } if true { let x = true ; x = n == tid ( ) ; }", "x: tid, y: x")
	leansAre(t, "let y = tid ( ) ; if true { let x = y ; } if true { let x = 1 ; x = x + 1 ; let z = x ; }", "y: tid, x: x y, z: x")
	leansAre(t, "if true { let x = 1 ; let y = x ; } if true { let y = 1 ; let x = y ; }", "x: y, y: x")
	leansAre(t, "let k = tid ( ) ;", "k: tid")
}

// Rising by bytes, `local` and `tid` at their places among the names.
func TestUsesRise(t *testing.T) {
	t.Parallel()
	lets := "let zz = 1 ; let z = 1 ; let tie = 1 ; let tid0 = 1 ; let ti = 1 ; let m = 1 ; let locam = 1 ; let locals = 1 ; let loca = 1 ; let aa = 1 ; let a0 = 1 ; let _ = 1 ; let Z = 1 ; let é = 1 ; let 𐀀 = 1 ; let ｆ = 1 ; "
	l := leansAre(t, lets+"let x = zz + z + tie + tid ( ) + tid0 + ti + m + locam + locals + local ( ) + loca + aa + a0 + _ + Z + é + 𐀀 + ｆ + tid ( ) + é ;",
		"zz:, z:, tie:, tid0:, ti:, m:, locam:, locals:, loca:, aa:, a0:, _:, Z:, é:, 𐀀:, ｆ:, x: Z _ a0 aa loca local locals locam m ti tid tid0 tie z zz é ｆ 𐀀")
	if got := impl.VaryingNames(l); !slices.Equal(got, []string{"x"}) {
		t.Errorf("%q vary", got)
	}
}

// Names that are none of a kernel's lets and loops.
func TestNamesThatAreNoneOfTheKernels(t *testing.T) {
	t.Parallel()
	l := impl.ReadKernel("kernel kern ( int n , float f , buffer int a , buffer float b ) { let x = tid ( ) + n ; for i in 0 .. x { a [ i ] = int ( b [ x ] + f ) ; } }").Nodes
	for _, name := range slices.Concat(notNames, strings.Fields("kern n f a b y X xx x_ int float abs kernel for tid() tid( group 1 + =")) {
		heldUses(t, l, name, nil)
		heldWhy(t, l, name, nil)
	}
	heldUses(t, l, "x", []string{"tid"})
	heldUses(t, l, "i", []string{"x"})
	heldWhy(t, l, "x", []string{"tid"})
	heldWhy(t, l, "i", []string{"x", "tid"})
}

func TestNothingVaries(t *testing.T) {
	t.Parallel()
	variesBy(t, "", "")
	variesBy(t, "a [ tid ( ) ] = local ( ) ; if tid ( ) == 0 { a [ 0 ] = 1 ; }", "")
	variesBy(t, "let x = n ; let y = size ( ) ; let z = group ( ) + x ; for i in 0 .. y { z = z + i * a [ i ] ; }", "")
	variesBy(t, "let x = 1 ; let y = x ; x = y ; let z = x ; z = z + 1 ;", "")
	variesBy(t, "let x = 1 ; if tid ( ) == 0 { a [ x ] = x ; } x = 2 ;", "")
}

func TestVaryingByOneLink(t *testing.T) {
	t.Parallel()
	variesBy(t, "let x = tid ( ) ;", "x: tid")
	variesBy(t, "let x = local ( ) ;", "x: local")
	variesBy(t, "let x = tid ( ) - local ( ) ;", "x: local")
	variesBy(t, "let x = 1 ; if tid ( ) < 1 { x = 1 ; }", "x: tid")
	variesBy(t, "let x = 1 ; if true { } else { for i in 0 .. local ( ) { x = 1 ; } }", "x: local, i: local")
	variesBy(t, "let x = b [ tid ( ) ] ;", "x: tid")
	variesBy(t, "let y = tid ( ) ; let x = y ; x = local ( ) ;", "y: tid, x: local")
}

func TestVaryingThroughNames(t *testing.T) {
	t.Parallel()
	variesBy(t, "let x = tid ( ) ; let y = x ; let z = y ; let w = z + 1 ; let v = 1 ;", "x: tid, y: x tid, z: y x tid, w: z y x tid")
	variesBy(t, "let x = tid ( ) ; let y = 1 ; let z = 2 ; if x == 0 { y = 2 ; } if y == 2 { z = 3 ; }", "x: tid, y: x tid, z: y x tid")
	variesBy(t, "let x = local ( ) ; for i in 0 .. x { for j in 0 .. 1 { let y = 1 ; } }", "x: local, i: x local, j: x local, y: x local")
	variesBy(t, "let u = n * 2 ; let v = tid ( ) ; let w = u ; if v == 0 { w = 1 ; } let z = a [ w ] ;", "v: tid, w: v tid, z: w v tid")
	variesBy(t, "let x = 1 ; let y = x ; x = tid ( ) ;", "x: tid, y: x tid")
}

// A circle of names varies as one, where one of it does.
func TestVaryingThroughACircle(t *testing.T) {
	t.Parallel()
	variesBy(t, "let x = 1 ; let y = x ; let z = y ; x = z ;", "")
	variesBy(t, "let x = 1 ; let y = x ; let z = y ; x = z ; y = local ( ) ;", "y: local, z: y local, x: z y local")
	variesBy(t, "let x = 1 ; x = x + tid ( ) ;", "x: tid")
	variesBy(t, "let x = 1 ; let w = 2 ; w = w + x ; let y = x ; x = y ; let v = tid ( ) ; if v == 0 { y = 1 ; }", "v: tid, y: v tid, x: y v tid, w: x y v tid")
	variesBy(t, "let x = 1 ; let y = 1 ; x = y ; y = x ; let z = tid ( ) ; z = x ;", "z: tid")
}

// The shortest chain counts ahead of its texts.
func TestTheShortestChain(t *testing.T) {
	t.Parallel()
	variesBy(t, "let c = tid ( ) ; let d = c ; let a0 = d ; let z = local ( ) ; let x = a0 + z ;", "c: tid, d: c tid, a0: d c tid, z: local, x: z local")
	variesBy(t, "let c = tid ( ) ; let x = c ; x = tid ( ) ;", "c: tid, x: tid")
	variesBy(t, "let c = tid ( ) ; let d = c ; let p = d ; let q = c ; let x = p ; x = q ; let y = x ; y = p ;", "c: tid, d: c tid, p: d c tid, q: c tid, x: q c tid, y: p d c tid")
}

// Of several as short the first one by its first link, then by its second one,
// and so on.
func TestTheFirstOfChainsAsShort(t *testing.T) {
	t.Parallel()
	variesBy(t, "let p = tid ( ) ; let q = local ( ) ; let x = q + p ;", "p: tid, q: local, x: p tid")
	variesBy(t, "let q = tid ( ) ; let p = local ( ) ; let x = q + p ;", "q: tid, p: local, x: p local")
	variesBy(t, "let p = tid ( ) + local ( ) ; let x = p ;", "p: local, x: p local")
	variesBy(t, "let z = tid ( ) ; let w = local ( ) ; let p = z ; let q = w ; let x = q + p ;", "z: tid, w: local, p: z tid, q: w local, x: p z tid")
	variesBy(t, "let z = tid ( ) ; let w = local ( ) ; let p = z + w ; let q = w ; let x = q + p ;", "z: tid, w: local, p: w local, q: w local, x: p w local")
	variesBy(t, "let Z = tid ( ) ; let w = local ( ) ; let é = w ; let p = w ; let x = é + p + Z ; let y = é + p ;", "Z: tid, w: local, é: w local, p: w local, x: Z tid, y: p w local")
	variesBy(t, "let pp = tid ( ) ; let p = tid ( ) ; let x = pp ; x = p ; let y = pp ;", "pp: tid, p: tid, x: p tid, y: pp tid")
}

// As many names as a kernel has room for, each of which leans on the one ahead.
func TestTheLongestChain(t *testing.T) {
	t.Parallel()
	var names []string
	body := tree{kind: impl.NBlock}
	for i := range 124 {
		name := "v" + string(rune('a'+i*7%26)) + string(rune('a'+i/26))
		on := tree{kind: impl.NCall, text: "tid"}
		if i > 0 {
			on = tree{kind: impl.NName, text: names[0]}
		}
		body.kids = append(body.kids, tree{impl.NLet, name, []tree{on}})
		names = append([]string{name}, names...)
	}
	l := tree{impl.NKernel, "k", []tree{body}}.nodes()
	if len(l) != 250 {
		t.Fatalf("%d nodes", len(l))
	}
	heldWhy(t, l, names[0], append(slices.Clone(names[1:]), "tid"))
	heldUses(t, l, names[0], names[1:2])
	slices.Sort(names)
	if got := impl.VaryingNames(l); !slices.Equal(got, names) {
		t.Errorf("%q vary, want %q", got, names)
	}
	noneVary(t, append(l, impl.Node{Kind: impl.NBarrier}))
}
