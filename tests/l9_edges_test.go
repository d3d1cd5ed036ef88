package tests

import (
	"math"
	"slices"
	"strconv"
	"strings"
	"testing"

	"loop.example/g00053/impl"
)

// The edges that chapter 9 names, with what is left written out.

// wholes: whole numbers as words.
func wholes(l ...int) []uint32 {
	var words []uint32
	for _, n := range l {
		words = append(words, uint32(n))
	}
	return words
}

// toldWords: words as whole numbers, or as floats.
func toldWords(l []uint32, letter byte) string {
	var texts []string
	for _, w := range l {
		if letter == 'f' {
			texts = append(texts, strconv.FormatFloat(float(w), 'g', -1, 32))
		} else {
			texts = append(texts, strconv.FormatInt(signed(w), 10))
		}
	}
	return strings.Join(texts, " ")
}

var runCodes = []string{"", "RunBad", "RunSteps"}

// toldRan: of what is left the buffer of whole numbers, the one of floats, and
// the steps; a code alone where there is nothing else.
func toldRan(r impl.Ran) string {
	if r.Code != 0 && len(r.Buffers) == 0 && r.Steps == 0 {
		return runCodes[r.Code]
	}
	text := ""
	for i, buffer := range r.Buffers {
		text += toldWords(buffer, "if"[i]) + " | "
	}
	return text + strconv.Itoa(r.Steps) + runCodes[r.Code]
}

// around: a launch for `given`: n is 5, f 1.5, a has these words, b 0.5, 2 and
// -3.25.
func around(groups, size int, a ...int) impl.Launch {
	return impl.Launch{Groups: groups, Size: size, Words: []uint32{5, threeHalves}, Buffers: [][]uint32{wholes(a...), {0x3f000000, two, 0xc0500000}}}
}

// kernelWith: the nodes of a kernel with types.
func kernelWith(t *testing.T, source string) []impl.Node {
	t.Helper()
	r := impl.ReadKernel(source)
	if r.Code != 0 || impl.TypeKernel(r.Nodes).Code != 0 {
		t.Fatalf("%q is no kernel with types: %v", source, r)
	}
	return r.Nodes
}

// leaves: what statements leave.
func leaves(t *testing.T, x impl.Launch, statements, want string) {
	t.Helper()
	l := kernelWith(t, given(statements))
	if got := toldRan(impl.RunKernel(l, x)); got != want {
		t.Errorf("%q leaves %s, want %s", statements, got, want)
	}
	heldRun(t, l, x)
}

// leavesA: what statements of one thread leave in a, which has 4 noughts, and how
// many steps they take.
func leavesA(t *testing.T, statements, want string, steps int) {
	t.Helper()
	leaves(t, around(1, 1, 0, 0, 0, 0), statements, want+" | 0.5 2 -3.25 | "+strconv.Itoa(steps))
}

func TestGroupsAndSizes(t *testing.T) {
	t.Parallel()
	l := kernelWith(t, given(""))
	for groups := -2; groups <= 10; groups++ {
		for size := -2; size <= 12; size++ {
			x := around(groups, size)
			if want := groups >= 1 && groups <= 4 && size >= 1 && size <= 8; heldLaunch(t, l, x) != want {
				t.Errorf("%d groups of %d threads: %v", groups, size, !want)
			} else if !want {
				badRun(t, l, x)
			}
		}
	}
	for _, n := range wrongInts {
		if n < 1 || n > 4 {
			badRun(t, l, around(n, 1))
		}
		if n < 1 || n > 8 {
			badRun(t, l, around(1, n))
		}
	}
}

// launchOf: one thread, so many words and buffers of so many words.
func launchOf(words int, buffers ...int) impl.Launch {
	x := impl.Launch{Groups: 1, Size: 1, Words: make([]uint32, words)}
	for _, n := range buffers {
		x.Buffers = append(x.Buffers, make([]uint32, n))
	}
	return x
}

func TestWordsAndBuffersOfALaunch(t *testing.T) {
	t.Parallel()
	for source, counts := range map[string][2]int{
		"kernel k ( ) { }":                {0, 0},
		"kernel k ( int n ) { }":          {1, 0},
		"kernel k ( float n ) { }":        {1, 0},
		"kernel k ( buffer int n ) { }":   {0, 1},
		"kernel k ( buffer float n ) { }": {0, 1},
		"kernel k ( buffer float a , int n , buffer int b , float f ) { }":                                                       {2, 2},
		"kernel k ( int a , int b , float c , float d , int e , int f ) { }":                                                     {6, 0},
		"kernel k ( buffer int a , buffer int b , buffer int c , buffer float d , buffer int e , buffer int f ) { let x = 1 ; }": {0, 6},
		"kernel k ( float a , buffer int b , buffer float c , buffer int d , int e , buffer int f ) { for i in 0 .. 1 { } }":     {2, 4},
	} {
		l := kernelWith(t, source)
		for words := range 8 {
			for buffers := range 8 {
				x := launchOf(words, make([]int, buffers)...)
				if want := [2]int{words, buffers} == counts; heldLaunch(t, l, x) != want {
					t.Errorf("%q with %d words and %d buffers: %v", source, words, buffers, !want)
				} else if !want {
					badRun(t, l, x)
				}
			}
		}
	}
}

func TestLengthsOfBuffers(t *testing.T) {
	t.Parallel()
	l := kernelWith(t, given(""))
	for _, a := range []int{0, 1, 63, 64, 65, 66, 1000} {
		for _, b := range []int{0, 1, 63, 64, 65, 66, 1000} {
			x := launchOf(2, a, b)
			if want := a <= 64 && b <= 64; heldLaunch(t, l, x) != want {
				t.Errorf("buffers of %d and %d words: %v", a, b, !want)
			} else if !want {
				badRun(t, l, x)
			}
		}
	}
}

func TestLaunchesOfKernelsWithoutTypes(t *testing.T) {
	t.Parallel()
	for _, fault := range faultyStatements {
		l := impl.ReadKernel(given(fault.text)).Nodes
		if len(l) == 0 {
			t.Fatalf("%q is no kernel", fault.text)
		}
		badRun(t, l, around(1, 1, 0))
	}
	badRun(t, impl.ReadKernel("kernel k ( int n , int n ) { }").Nodes, launchOf(2))
	badRun(t, nil, launchOf(0))
	badRun(t, nodesOf("15 0"), launchOf(0))
	badRun(t, nodesOf("16 k 0"), launchOf(0))
	badRun(t, nodesOf("16 k 1, 15 0, 14 0"), launchOf(0))
	badRun(t, nodesOf("17 n 0"), launchOf(1))
}

// Words and buffers belong to parameters by their order, each of its own sort.
func TestParametersInMixedOrder(t *testing.T) {
	t.Parallel()
	l := kernelWith(t, "kernel k ( buffer float c , int n , buffer int d , float f , int m , buffer int e ) { c [ 0 ] = f ; c [ 1 ] = n ; d [ 0 ] = n ; d [ 1 ] = m ; e [ 0 ] = m - n ; e [ 1 ] = d [ 2 ] ; }")
	x := impl.Launch{Groups: 1, Size: 1, Words: []uint32{7, threeHalves, 9}, Buffers: [][]uint32{{0, 0}, {1, 2, 3}, {4, 5, 6}}}
	got := impl.RunKernel(l, x)
	if !sameRan(got, impl.Ran{Buffers: [][]uint32{{threeHalves, 0x40e00000}, {7, 9, 3}, {2, 3, 6}}, Steps: 6}) {
		t.Errorf("parameters in mixed order: %v", got)
	}
	heldRun(t, l, x)
}

func TestWhatEachThreadKnows(t *testing.T) {
	t.Parallel()
	own := "a [ tid ( ) ] = tid ( ) * 1000 + group ( ) * 100 + local ( ) * 10 + size ( ) ;"
	leaves(t, around(2, 3, 9, 9, 9, 9, 9, 9, 9), own, "3 1013 2023 3103 4113 5123 9 | 0.5 2 -3.25 | 6")
	leaves(t, around(3, 2, 9, 9, 9, 9, 9, 9, 9), own, "2 1012 2102 3112 4202 5212 9 | 0.5 2 -3.25 | 6")
	leaves(t, around(1, 1, 9, 9), own, "1 9 | 0.5 2 -3.25 | 1")
	leaves(t, around(4, 1, 9, 9, 9, 9, 9), own, "1 1101 2201 3301 9 | 0.5 2 -3.25 | 4")
	leaves(t, around(1, 8, make([]int, 8)...), own, "8 1018 2028 3038 4048 5058 6068 7078 | 0.5 2 -3.25 | 8")
	l := kernelWith(t, given("a [ tid ( ) ] = tid ( ) ; a [ 63 - tid ( ) ] = group ( ) * 8 + local ( ) ;"))
	x := around(4, 8, make([]int, 64)...)
	if got := impl.RunKernel(l, x); got.Steps != 64 || got.Buffers[0][31] != 31 || got.Buffers[0][32] != 31 || got.Buffers[0][63] != 0 || got.Buffers[0][8] != 8 {
		t.Errorf("4 groups of 8: %v", got)
	}
}

func TestNamesAreGivenValues(t *testing.T) {
	t.Parallel()
	leavesA(t, "let x = 3 ; a [ 0 ] = x ; x = x + 4 ; a [ 1 ] = x ; x = 0 - x ; a [ 2 ] = x ;", "3 7 -7 0", 6)
	leavesA(t, "let x = n ; let y = x * x ; x = y + x ; a [ y - 25 ] = x ;", "30 0 0 0", 4)
	leavesA(t, "let p = true ; if p { a [ 0 ] = 1 ; } p = n < 5 ; if p { a [ 1 ] = 1 ; } if ! p { a [ 2 ] = 1 ; }", "1 0 1 0", 7)
	leavesA(t, "let p = n == 5 ; let q = p != ( f < 1 ) ; p = p && ! q || f == 1.5 ; if p && q { a [ 3 ] = 4 ; }", "0 0 0 4", 5)
	leavesA(t, "let x = f ; x = x * 2 ; a [ 0 ] = int ( x ) ; x = x + 0.75 ; a [ 1 ] = int ( x ) ; a [ 2 ] = int ( 0 - x - 0.5 ) ;", "3 3 -4 0", 6)
	leavesA(t, "let x = b [ 2 ] ; a [ 0 ] = int ( - x ) ; a [ 1 ] = int ( abs ( x ) * 4 ) ; a [ 2 ] = int ( fma ( 2 , x , n ) * 2 ) ; a [ 3 ] = int ( sqrt ( 49 ) ) ;", "3 13 -3 7", 5)
}

// A whole number is made a float where the name or the buffer is one, and
// nowhere else.
func TestWholeNumbersGivenToFloats(t *testing.T) {
	t.Parallel()
	leaves(t, around(1, 1), "let x = 0.5 ; x = 7 ; b [ 0 ] = x ; b [ 1 ] = n ; x = 16777217 ; b [ 2 ] = x ;", " | 7 5 1.6777216e+07 | 6")
	leaves(t, around(1, 1), "let x = 7 ; b [ 0 ] = x / 2 ; let y = 7.0 ; b [ 1 ] = y / 2 ; y = x / 2 ; b [ 2 ] = y ;", " | 3 3.5 3 | 6")
	leaves(t, around(1, 1), "let x = f ; x = 0 - n ; b [ 0 ] = x ; x = x / 2 ; b [ 1 ] = x ; b [ 2 ] = 0 - 1 ;", " | -5 -2.5 -1 | 6")
	leaves(t, around(1, 1), "let x = 1.5 ; for i in 0 .. 3 { x = i ; b [ i ] = x + 0.25 ; }", " | 0.25 1.25 2.25 | 11")
	leaves(t, around(1, 1), "if n < f { } if n > f { b [ 0 ] = max ( n , f ) ; b [ 1 ] = min ( n , 2 ) ; b [ 2 ] = n - f ; }", " | 5 2 3.5 | 5")
	l := kernelWith(t, given("let x = 0.5 ; x = 1065353216 ; b [ 0 ] = x ; b [ 1 ] = 1065353216 ; let y = 1065353216 ; b [ 2 ] = y ;"))
	x := around(1, 1)
	if got := impl.RunKernel(l, x).Buffers[1]; !slices.Equal(got, slices.Repeat([]uint32{0x4e7e0000}, 3)) {
		t.Errorf("whole numbers in a buffer of floats: %#x", got)
	}
	heldRun(t, l, x)
}

// Words of a launch are taken bit by bit, NaNs of any sort among them.
func TestWordsAreKeptBitByBit(t *testing.T) {
	t.Parallel()
	l := kernelWith(t, given("a [ 0 ] = n ; b [ 0 ] = f ; b [ 1 ] = b [ 2 ] ; let x = b [ 3 ] ; b [ 2 ] = x ; x = f ; b [ 4 ] = - x ; b [ 5 ] = x + 0 ; a [ 1 ] = a [ 2 ] ;"))
	x := impl.Launch{Groups: 1, Size: 1, Words: []uint32{minus, 0x7f800001}, Buffers: [][]uint32{{0, 0, 0xfedcba98}, {0, 0, 0xffffffff, 0xffc00001, 0, 0}}}
	want := impl.Ran{Buffers: [][]uint32{{minus, 0xfedcba98, 0xfedcba98}, {0x7f800001, 0xffffffff, 0xffc00001, 0xffc00001, impl.TheNaN, impl.TheNaN}}, Steps: 9}
	if got := impl.RunKernel(l, x); !sameRan(got, want) {
		t.Errorf("%x, want %x", got, want)
	}
	heldRun(t, l, x)
}

func TestPlacesThatAreNotThere(t *testing.T) {
	t.Parallel()
	for _, place := range []string{"0 - 1", "4", "5", "64", "65", "256", "65536", "2147483647", "0 - 2147483647", "0 - 2147483647 - 1", "0 - 4", "n - 6", "1 << 31", "16777216", "tid ( ) - 1", "a [ 0 ] - 1"} {
		leavesA(t, "a [ "+place+" ] = 7 ;", "0 0 0 0", 1)
		leavesA(t, "a [ 1 ] = 7 ; a [ 1 ] = a [ "+place+" ] ; a [ 2 ] = 1 + a [ "+place+" ] ;", "0 0 1 0", 3)
		leavesA(t, "b [ "+place+" ] = 7 ; a [ 0 ] = int ( b [ "+place+" ] * 8 ) ;", "0 0 0 0", 2)
	}
	leavesA(t, "a [ 0 ] = 1 ; a [ 3 ] = 4 ; a [ 1 ] = a [ 3 ] ;", "1 4 0 4", 3)
	leaves(t, around(1, 1), "a [ 0 ] = 7 ; b [ 2 ] = a [ 0 ] ; b [ 3 ] = 7 ;", " | 0.5 2 0 | 3")
	leaves(t, around(2, 4, 1, 2, 3, 4, 5), "a [ tid ( ) + 1 ] = a [ tid ( ) ] * 2 ;", "1 2 4 8 16 | 0.5 2 -3.25 | 8")
	x := around(1, 2, make([]int, 64)...)
	leaves(t, x, "a [ 63 ] = a [ 63 ] + 1 ; a [ 64 ] = 1 ; a [ tid ( ) - 1 ] = a [ 64 ] + 3 ;", "3"+strings.Repeat(" 0", 62)+" 2 | 0.5 2 -3.25 | 6")
}

// The place of one buffer is none of another one's.
func TestBuffersAreApart(t *testing.T) {
	t.Parallel()
	leaves(t, around(1, 1, 1, 2), "b [ 2 ] = a [ 1 ] ; a [ 2 ] = 5 ; a [ 0 ] = int ( b [ 0 ] + b [ 1 ] + b [ 2 ] ) ;", "4 2 | 0.5 2 2 | 3")
	same := []uint32{1, 2, 3}
	x := impl.Launch{Groups: 1, Size: 1, Words: []uint32{0, 0}, Buffers: [][]uint32{same, same}}
	l := kernelWith(t, given("a [ 0 ] = 7 ; b [ 1 ] = 0 ;"))
	if got := impl.RunKernel(l, x); !sameRan(got, impl.Ran{Buffers: [][]uint32{{7, 2, 3}, {1, 0, 3}}, Steps: 2}) || !slices.Equal(same, []uint32{1, 2, 3}) {
		t.Errorf("one list as both buffers: %v, %v", got, same)
	}
}

func TestBothBlocksOfAnIf(t *testing.T) {
	t.Parallel()
	leavesA(t, "if n == 5 { a [ 0 ] = 1 ; } else { a [ 1 ] = 1 ; }", "1 0 0 0", 2)
	leavesA(t, "if n != 5 { a [ 0 ] = 1 ; } else { a [ 1 ] = 1 ; }", "0 1 0 0", 2)
	leavesA(t, "if n == 5 { a [ 0 ] = 1 ; a [ 1 ] = 2 ; } a [ 2 ] = 3 ;", "1 2 3 0", 4)
	leavesA(t, "if n != 5 { a [ 0 ] = 1 ; a [ 1 ] = 2 ; } a [ 2 ] = 3 ;", "0 0 3 0", 2)
	leavesA(t, "if true { } else { a [ 0 ] = 1 ; }", "0 0 0 0", 1)
	leavesA(t, "if false { } else { a [ 0 ] = 1 ; }", "1 0 0 0", 2)
	leavesA(t, "if false { a [ 0 ] = 1 ; } else { }", "0 0 0 0", 1)
	leavesA(t, "if false { if true { a [ 0 ] = 1 ; } } else { if false { a [ 1 ] = 1 ; } else { if true { a [ 2 ] = 1 ; } a [ 3 ] = 1 ; } }", "0 0 1 1", 5)
	leavesA(t, "let x = 1 ; if x == 1 { x = 2 ; } if x == 1 { a [ 0 ] = 1 ; } else { a [ 1 ] = x ; }", "0 2 0 0", 5)
	leavesA(t, "if a [ 0 ] == 0 { a [ 0 ] = 1 ; if a [ 0 ] == 0 { a [ 1 ] = 1 ; } else { a [ 2 ] = 1 ; } }", "1 0 1 0", 4)
	leaves(t, around(1, 4, 0, 0, 0, 0), "if tid ( ) % 2 == 0 { a [ tid ( ) ] = 1 ; } else { a [ tid ( ) ] = 2 ; } if local ( ) > 2 { a [ 0 ] = 9 ; }", "9 2 1 2 | 0.5 2 -3.25 | 13")
}

// Both operands are reckoned always, also where one would do.
func TestBothOperandsAreReckoned(t *testing.T) {
	t.Parallel()
	x := around(1, 2, 0, 0, 0, 0)
	for _, sign := range []string{"&&", "||"} {
		for _, first := range []string{"true", "false"} {
			l := kernelWith(t, given("let p = "+first+" "+sign+" a [ 1 ] == 0 ; if tid ( ) == 1 { a [ 1 ] = 1 ; }"))
			if got := toldRaces(impl.RacesOf(l, x)); got != "0 1: 0 1" {
				t.Errorf("%s %s: races %q", first, sign, got)
			}
			heldRun(t, l, x)
		}
	}
}

func TestLoopsTakeEachNumber(t *testing.T) {
	t.Parallel()
	leavesA(t, "for i in 0 .. 4 { a [ i ] = i * i ; }", "0 1 4 9", 9)
	leavesA(t, "for i in 1 .. 3 { a [ i ] = 7 ; }", "0 7 7 0", 5)
	leavesA(t, "for i in 0 - 2 .. 2 { a [ 0 ] = a [ 0 ] + 1 ; a [ 1 ] = a [ 1 ] + i ; }", "4 -2 0 0", 13)
	leavesA(t, "for i in n - 5 .. n { a [ i ] = 1 ; }", "1 1 1 1", 11)
	leavesA(t, "for i in 0 .. 2 { for j in 0 .. 2 { a [ i * 2 + j ] = a [ i * 2 + j ] + i * 10 + j ; } }", "0 1 10 11", 13)
	leavesA(t, "let s = 0 ; for i in 0 .. 3 { for j in i .. 3 { s = s + 1 ; } } a [ 0 ] = s ;", "6 0 0 0", 21)
	leaves(t, around(1, 3, 0, 0, 0), "for i in 0 .. tid ( ) { a [ tid ( ) ] = a [ tid ( ) ] + 1 ; }", "0 1 2 | 0.5 2 -3.25 | 9")
}

func TestLoopsThatDoTheirBlockNoTime(t *testing.T) {
	t.Parallel()
	leavesA(t, "for i in 0 .. 0 { a [ 0 ] = 1 ; }", "0 0 0 0", 1)
	leavesA(t, "for i in 3 .. 2 { a [ 0 ] = 1 ; }", "0 0 0 0", 1)
	leavesA(t, "for i in 3 .. 3 { a [ 0 ] = 1 ; } a [ 1 ] = 2 ;", "0 2 0 0", 2)
	leavesA(t, "for i in 0 .. 0 - 1 { a [ 0 ] = 1 ; }", "0 0 0 0", 1)
	leavesA(t, "for i in 0 .. 1 { for j in 1 .. i { a [ 0 ] = 1 ; } }", "0 0 0 0", 3)
}

// Bounds are reckoned once, whatever the block does to what they stand on.
func TestBoundsAreReckonedOnce(t *testing.T) {
	t.Parallel()
	leavesA(t, "let m = 3 ; for i in 0 .. m { m = m + 1 ; a [ 0 ] = m ; }", "6 0 0 0", 11)
	leavesA(t, "let m = 3 ; for i in 0 .. m { m = 0 ; a [ i ] = 1 ; }", "1 1 1 0", 11)
	leavesA(t, "let m = 0 ; for i in m .. 2 { m = 7 ; a [ i ] = 1 ; }", "1 1 0 0", 8)
	leavesA(t, "a [ 0 ] = 2 ; for i in 0 .. a [ 0 ] { a [ 0 ] = 9 ; a [ 1 ] = a [ 1 ] + 1 ; }", "9 2 0 0", 8)
	leavesA(t, "a [ 3 ] = 2 ; for i in a [ 2 ] .. a [ 3 ] { a [ 2 ] = a [ 2 ] + 10 ; a [ 3 ] = 0 ; }", "0 0 20 0", 8)
	leavesA(t, "let m = 2 ; for i in 0 .. 2 { for j in 0 .. m { m = m + 1 ; } a [ i ] = m ; }", "4 8 0 0", 20)
}

// A loop's name is set anew each time, also by a loop of the same name further
// on.
func TestLoopsSetTheirNameAnew(t *testing.T) {
	t.Parallel()
	leavesA(t, "for i in 0 .. 2 { let x = i ; x = x + 5 ; a [ i ] = x + i ; } for i in 2 .. 4 { a [ i ] = i ; }", "5 7 2 3", 14)
	leavesA(t, "for i in 0 .. 2 { for j in 5 .. 7 { a [ i ] = a [ i ] * 10 + j ; } a [ i + 2 ] = i ; }", "56 56 0 1", 15)
	leavesA(t, "for i in 0 .. 2 { if i == 0 { let x = 9 ; a [ 0 ] = x ; } if true { let x = 1 ; x = x + 1 ; a [ i + 1 ] = x ; } }", "9 2 2 0", 15)
	leavesA(t, "let i = 7 ; a [ 0 ] = i ; for j in 0 .. 2 { i = i + j ; } a [ 1 ] = i ;", "7 8 0 0", 8)
	leavesA(t, "if true { for i in 0 .. 2 { } } let i = 3 ; a [ 0 ] = i ;", "3 0 0 0", 6)
}

func TestBoundsAtTheEndsOfWholeNumbers(t *testing.T) {
	t.Parallel()
	least := "0 - 2147483647 - 1"
	leavesA(t, "for i in 2147483646 .. 2147483647 { a [ 0 ] = a [ 0 ] + 1 ; a [ 1 ] = i ; }", "1 2147483646 0 0", 4)
	leavesA(t, "for i in 2147483644 .. 2147483647 { a [ 0 ] = a [ 0 ] + 1 ; a [ 1 ] = i ; }", "3 2147483646 0 0", 10)
	leavesA(t, "for i in 2147483647 .. 2147483647 { a [ 0 ] = 1 ; }", "0 0 0 0", 1)
	leavesA(t, "for i in "+least+" .. "+least+" { a [ 0 ] = 1 ; }", "0 0 0 0", 1)
	leavesA(t, "for i in 2147483647 .. "+least+" { a [ 0 ] = 1 ; }", "0 0 0 0", 1)
	leavesA(t, "for i in "+least+" .. "+least+" + 2 { a [ 0 ] = a [ 0 ] + 1 ; a [ 1 ] = i ; }", "2 -2147483647 0 0", 7)
	leavesA(t, "for i in 0 - 1 .. 1 { a [ 0 ] = a [ 0 ] * 10 + i ; }", "-10 0 0 0", 5)
	for _, bounds := range []string{least + " .. 2147483647", "0 .. 2147483647", least + " .. 0", "0 - 1 .. 2147483647", "2147480000 .. 2147483647 - 0 * n"} {
		for _, block := range []string{"", "a [ 0 ] = 1 ;"} {
			want := "RunSteps"
			if strings.HasPrefix(bounds, "2147480000") && block == "" {
				want = "0 | 0.5 2 -3.25 | 3648"
			}
			leaves(t, around(1, 1, 0), "for i in "+bounds+" { "+block+" }", want)
		}
	}
}

func TestStepsOfEachStatement(t *testing.T) {
	t.Parallel()
	for statements, steps := range stepsOfStatements {
		l := kernelWith(t, given(statements))
		if got := impl.RunKernel(l, around(1, 1, 0, 0, 0)); got.Steps != steps || got.Code != 0 {
			t.Errorf("%q takes %d steps (code %d), want %d", statements, got.Steps, got.Code, steps)
		}
	}
}

var stepsOfStatements = map[string]int{
	"":              0,
	"barrier ;":     0,
	"let x = 1 ;":   1,
	"a [ 9 ] = 1 ;": 1,
	"let x = 1 ; barrier ; x = a [ 1 ] + n * 7 ;": 2,
	"if true { }":                                                            1,
	"if false { }":                                                           1,
	"if false { let x = 1 ; }":                                               1,
	"if true { a [ 0 ] = 1 ; } else { }":                                     2,
	"if false { } else { a [ 0 ] = 1 ; }":                                    2,
	"if false { } else { let x = 1 ; x = 2 ; if true { } }":                  4,
	"for j in 0 .. 0 { }":                                                    1,
	"for j in 5 .. 4 { let x = 1 ; }":                                        1,
	"for j in 0 .. 3 { }":                                                    4,
	"for j in 0 .. 2 { let x = j ; }":                                        5,
	"for j in 0 .. 2 { let x = j ; x = 1 ; a [ 0 ] = x ; }":                  9,
	"for j in 0 .. 2 { for l in 0 .. 3 { } }":                                11,
	"for j in 0 .. 2 { for l in 0 .. 3 { let x = 1 ; } }":                    17,
	"for j in 0 .. 3 { if j == 1 { a [ 0 ] = 1 ; } }":                        8,
	"for j in 0 .. 3 { if j == 1 { } else { a [ 0 ] = 1 ; a [ 1 ] = 2 ; } }": 11,
	"barrier ; barrier ; let x = 1 ; barrier ;":                              1,
}

// Just as many steps as there may be, and one more, whatever takes the last
// one.
func TestTheLastStep(t *testing.T) {
	t.Parallel()
	x := around(1, 1, 0, 0, 0)
	for statements, steps := range stepsOfStatements {
		for _, form := range []string{"for i in 0 .. # { } @", "@ for i in 0 .. # { }", "for i in 0 .. # { } barrier ; @", "@ barrier ; for i in 0 .. # { }"} {
			for more := range 3 {
				source := given(strings.Replace(strings.Replace(form, "#", strconv.Itoa(3999-steps+more), 1), "@", statements, 1))
				got := impl.RunKernel(kernelWith(t, source), x)
				if more == 0 && (got.Code != 0 || got.Steps != 4000) || more > 0 && !sameRan(got, impl.Ran{Code: impl.RunSteps}) {
					t.Errorf("%q: %v with %d steps", source, got, 4000+more)
				}
				if more > 0 {
					noRacesNorWords(t, kernelWith(t, source), x)
				}
			}
		}
	}
	leaves(t, x, "for i in 0 .. 1999 { a [ 0 ] = i ; } a [ 1 ] = 7 ;", "1998 7 0 | 0.5 2 -3.25 | 4000")
	leaves(t, x, "for i in 0 .. 1999 { a [ 0 ] = i ; } a [ 1 ] = 7 ; a [ 2 ] = 7 ;", "RunSteps")
}

// The steps of all threads add up, those of all parts, too.
func TestStepsOfManyThreads(t *testing.T) {
	t.Parallel()
	for _, c := range [][3]int{{4, 8, 124}, {4, 1, 999}, {1, 8, 499}, {2, 4, 499}, {4, 5, 199}, {1, 5, 799}} {
		x := around(c[0], c[1], 0)
		turns := strconv.Itoa(c[2])
		last := strconv.Itoa(c[0]*c[1] - 1)
		leaves(t, x, "for i in 0 .. "+turns+" { }", "0 | 0.5 2 -3.25 | 4000")
		leaves(t, x, "for i in 0 .. "+turns+" + tid ( ) / "+last+" { }", "RunSteps")
		leaves(t, x, "for i in 0 .. "+turns+" + ( "+last+" - tid ( ) ) / "+last+" { }", "RunSteps")
		leaves(t, x, "for i in 0 .. "+turns+" { } barrier ; let x = 1 ;", "RunSteps")
		leaves(t, x, "barrier ; for i in 0 .. "+turns+" { } barrier ;", "0 | 0.5 2 -3.25 | 4000")
	}
	leaves(t, around(4, 8, 0), "for i in 0 .. 61 { } a [ 0 ] = 1 ; barrier ; for i in 0 .. 60 { } a [ 0 ] = a [ 0 ] + 1 ;", "9 | 0.5 2 -3.25 | 4000")
	leaves(t, around(2, 1, 0), "if tid ( ) == 0 { for i in 0 .. 3997 { } } a [ 0 ] = 7 ;", "RunSteps")
	leaves(t, around(2, 1, 0), "if tid ( ) == 0 { for i in 0 .. 3995 { } } a [ 0 ] = 7 ;", "7 | 0.5 2 -3.25 | 4000")
	leaves(t, around(2, 1, 0), "if tid ( ) == 0 { for i in 0 .. 3994 { } } a [ 0 ] = 7 ;", "7 | 0.5 2 -3.25 | 3999")
}

// Loops within one another that would never end.
func TestLoopsOfThousandsOfMillions(t *testing.T) {
	t.Parallel()
	great := "0 - 2147483647 .. 2147483647"
	for _, statements := range []string{
		"for i in " + great + " { for j in " + great + " { for l in " + great + " { a [ 0 ] = 1 ; } } }",
		"for i in " + great + " { if i == 5 { a [ 0 ] = 1 ; } else { } }",
		"for i in " + great + " { for j in 1 .. 0 { } }",
		"if tid ( ) == 31 { for i in " + great + " { } }",
		"barrier ; barrier ; for i in " + great + " { } barrier ; a [ 0 ] = 1 ;",
		"for i in 0 .. n { for j in " + great + " { let x = j ; } }",
	} {
		leaves(t, around(4, 8, 0), statements, "RunSteps")
	}
}

func TestABarrierPartsTheBlock(t *testing.T) {
	t.Parallel()
	meet := "a [ tid ( ) ] = tid ( ) + 1 ; # a [ 4 + tid ( ) ] = a [ ( tid ( ) + 1 ) % 4 ] ;"
	leaves(t, around(1, 4, make([]int, 8)...), strings.Replace(meet, "#", "barrier ;", 1), "1 2 3 4 2 3 4 1 | 0.5 2 -3.25 | 8")
	leaves(t, around(1, 4, make([]int, 8)...), strings.Replace(meet, "#", "", 1), "1 2 3 4 0 0 0 1 | 0.5 2 -3.25 | 8")
	order := "a [ 0 ] = a [ 0 ] * 10 + tid ( ) + 1 ;"
	leaves(t, around(1, 2, 0), order+order, "1122 | 0.5 2 -3.25 | 4")
	leaves(t, around(1, 2, 0), order+"barrier ;"+order, "1212 | 0.5 2 -3.25 | 4")
	leaves(t, around(2, 2, 0), order+"barrier ;"+order, "12123434 | 0.5 2 -3.25 | 8")
	leaves(t, around(1, 3, 0), order+"barrier ;"+order+"barrier ;"+order, "123123123 | 0.5 2 -3.25 | 9")
	leaves(t, around(3, 1, 0), order+"barrier ;"+order, "112233 | 0.5 2 -3.25 | 6")
	leaves(t, around(1, 2, 0), order+order+"barrier ;"+order, "112212 | 0.5 2 -3.25 | 6")
}

func TestBarriersAtTheEndsAndSideBySide(t *testing.T) {
	t.Parallel()
	order := "a [ 0 ] = a [ 0 ] * 10 + tid ( ) + 1 ;"
	for _, form := range []string{"barrier ; # @", "# @ barrier ;", "barrier ; # @ barrier ;", "barrier ; barrier ; # @ barrier ; barrier ;"} {
		leaves(t, around(1, 2, 0), strings.NewReplacer("#", order, "@", order).Replace(form), "1122 | 0.5 2 -3.25 | 4")
	}
	for _, form := range []string{"# barrier ; @", "# barrier ; barrier ; @", "barrier ; # barrier ; barrier ; barrier ; @ barrier ;"} {
		leaves(t, around(1, 2, 0), strings.NewReplacer("#", order, "@", order).Replace(form), "1212 | 0.5 2 -3.25 | 4")
	}
	leaves(t, around(2, 2, 7), "barrier ;", "7 | 0.5 2 -3.25 | 0")
	leaves(t, around(2, 2, 7), strings.Repeat("barrier ; ", 150), "7 | 0.5 2 -3.25 | 0")
	l := tree{impl.NKernel, "k", []tree{{impl.NBlock, "", slices.Repeat([]tree{{kind: impl.NBarrier}}, 248)}}}.nodes()
	if got := impl.RunKernel(l, impl.Launch{Groups: 4, Size: 8}); !sameRan(got, impl.Ran{}) {
		t.Errorf("248 barriers: %v", got)
	}
}

// Names keep their values from one part to the next, in each thread its own.
func TestNamesBehindABarrier(t *testing.T) {
	t.Parallel()
	leaves(t, around(1, 3, 0, 0, 0), "let x = tid ( ) * 2 ; barrier ; a [ tid ( ) ] = x ; x = x + 1 ; barrier ; a [ tid ( ) ] = a [ tid ( ) ] * 10 + x ;", "1 23 45 | 0.5 2 -3.25 | 12")
	leaves(t, around(2, 2, 0, 0, 0, 0), "let x = tid ( ) + 1 ; let y = 0.5 ; barrier ; y = x ; barrier ; x = int ( y * 2 ) ; barrier ; a [ tid ( ) ] = x ;", "2 4 6 8 | 0.5 2 -3.25 | 20")
	leaves(t, around(1, 2, 0, 0), "let p = tid ( ) == 0 ; barrier ; let x = 5 ; if p { x = 6 ; } barrier ; a [ tid ( ) ] = x ;", "6 5 | 0.5 2 -3.25 | 9")
	leaves(t, around(2, 1, 0, 0), "let x = a [ 0 ] ; x = x + 1 ; barrier ; a [ tid ( ) ] = x ; a [ 0 ] = x ;", "2 2 | 0.5 2 -3.25 | 8")
}

// toldOrder: what an order leaves in a, or the code.
func toldOrder(l []impl.Node, x impl.Launch, groups, threads []int) string {
	text, _, _ := strings.Cut(toldRan(impl.RunInOrder(l, x, groups, threads)), " |")
	return text
}

func TestOrdersOfGroupsAndThreads(t *testing.T) {
	t.Parallel()
	one := kernelWith(t, given("a [ 0 ] = a [ 0 ] * 10 + tid ( ) + 1 ;"))
	two := kernelWith(t, given("a [ 0 ] = a [ 0 ] * 10 + tid ( ) + 1 ; barrier ; a [ 0 ] = a [ 0 ] * 10 + tid ( ) + 1 ;"))
	for _, c := range []struct {
		l               []impl.Node
		groups, threads []int
		want            string
	}{
		{one, []int{0}, []int{0}, "1"},
		{one, []int{0}, []int{0, 1, 2}, "123"},
		{one, []int{0}, []int{2, 0, 1}, "312"},
		{one, []int{0}, []int{1, 2, 0}, "231"},
		{one, []int{1, 0}, []int{0, 1}, "3412"},
		{one, []int{0, 1}, []int{1, 0}, "2143"},
		{one, []int{1, 0}, []int{1, 0}, "4321"},
		{one, []int{2, 0, 1}, []int{0, 1, 2}, "789123456"},
		{one, []int{2, 0, 3, 1}, []int{0}, "3142"},
		{one, []int{1, 2, 0}, []int{1, 0}, "436521"},
		{one, []int{0}, []int{7, 6, 5, 4, 3, 2, 1, 0}, "87654321"},
		{two, []int{0}, []int{1, 0}, "2121"},
		{two, []int{1, 0}, []int{1, 0}, "43432121"},
		{two, []int{0, 1}, []int{1, 0}, "21214343"},
		{two, []int{0}, []int{2, 0, 1}, "312312"},
		{two, []int{2, 0, 1}, []int{0}, "331122"},
	} {
		x := around(len(c.groups), len(c.threads), 0)
		if got := toldOrder(c.l, x, c.groups, c.threads); got != c.want {
			t.Errorf("groups %v, threads %v: %s, want %s", c.groups, c.threads, got, c.want)
		}
		heldOrder(t, c.l, x, c.groups, c.threads)
	}
}

func TestOrdersThatAreNone(t *testing.T) {
	t.Parallel()
	l := kernelWith(t, given("a [ 0 ] = a [ 0 ] + 1 ;"))
	x := around(3, 2, 0)
	groups, threads := []int{1, 2, 0}, []int{1, 0}
	if got := toldOrder(l, x, groups, threads); got != "6" {
		t.Errorf("orders as said: %s", got)
	}
	wrong := [][]int{nil, {}, {0}, {1}, {2}, {0, 0}, {1, 1}, {0, 2}, {2, 1}, {-1, 0}, {0, -1}, {1, 2}, {0, 1 << 32}, {1<<32 + 1, 0}, {0, 1, 1}, {0, 1, 2, 3}, {0, 1, 3}, {1, 2, 3}, {0, 0, 1}, {2, 2, 2}, {0, 1, -2}, {2, 1, 0, 0}, {math.MinInt64, 1, 0}, {0, 1, math.MaxInt64}, {0, 1, 2, 0, 1, 2}, make([]int, 100000)}
	for _, order := range wrong {
		if got := toldOrder(l, x, order, threads); got != "RunBad" {
			t.Errorf("groups %v: %s", order, got)
		}
		if got := toldOrder(l, x, groups, order); got != "RunBad" {
			t.Errorf("threads %v: %s", order, got)
		}
		if got := toldOrder(l, x, order, order); got != "RunBad" {
			t.Errorf("groups and threads %v: %s", order, got)
		}
	}
	for _, order := range [][]int{{0, 1, 2}, {2, 0, 1}} { // one of groups is none of threads
		if got := toldOrder(l, x, groups, order); got != "RunBad" {
			t.Errorf("threads %v: %s", order, got)
		}
	}
	if got := toldOrder(l, x, threads, groups); got != "RunBad" {
		t.Errorf("orders the other way round: %s", got)
	}
	long := kernelWith(t, given("for i in 0 .. 4000 { }"))
	for order, want := range map[string][]int{"RunBad": {1, 1}, "RunSteps": {1, 0}} {
		if got := toldOrder(long, x, groups, want); got != order {
			t.Errorf("too many steps with threads %v: %s", want, got)
		}
	}
}

// toldRaces: buffer, place and the two threads of each race.
func toldRaces(l []impl.Race, ok bool) string {
	if !ok {
		return strconv.Itoa(len(l)) + " and false"
	}
	var texts []string
	for _, r := range l {
		texts = append(texts, strconv.Itoa(r.Buffer)+" "+strconv.Itoa(r.Place)+": "+strconv.Itoa(r.A)+" "+strconv.Itoa(r.B))
	}
	return strings.Join(texts, ", ")
}

// raceAt: the races of statements at a launch of so many groups and threads, in
// which a has 4 noughts.
func raceAt(t *testing.T, groups, size int, statements, want string) {
	t.Helper()
	l, x := kernelWith(t, given(statements)), around(groups, size, 0, 0, 0, 0)
	if got := toldRaces(impl.RacesOf(l, x)); got != want {
		t.Errorf("%q with %d groups of %d: races %q, want %q", statements, groups, size, got, want)
	}
	heldRun(t, l, x)
}

func TestRacesInOnePart(t *testing.T) {
	t.Parallel()
	raceAt(t, 1, 2, "let x = a [ 0 ] + a [ tid ( ) ] ;", "")
	raceAt(t, 1, 2, "a [ tid ( ) ] = 1 ;", "")
	raceAt(t, 1, 2, "a [ 1 ] = 1 ;", "0 1: 0 1")
	raceAt(t, 1, 1, "a [ 1 ] = a [ 1 ] + 1 ; a [ 1 ] = 2 ;", "")
	raceAt(t, 1, 2, "if tid ( ) == 0 { a [ 1 ] = 1 ; } else { a [ 2 ] = a [ 1 ] ; }", "0 1: 0 1")
	raceAt(t, 1, 2, "if tid ( ) == 1 { a [ 1 ] = 1 ; } else { a [ 2 ] = a [ 1 ] ; }", "0 1: 0 1")
	raceAt(t, 1, 2, "a [ tid ( ) ] = a [ tid ( ) + 1 ] ;", "0 1: 0 1")
	raceAt(t, 1, 2, "let x = a [ 0 ] ; if tid ( ) == 0 { a [ 0 ] = 1 ; }", "0 0: 0 1")
	raceAt(t, 1, 2, "if tid ( ) == 0 { a [ 0 ] = 1 ; a [ 0 ] = a [ 0 ] ; }", "")
	raceAt(t, 1, 3, "if tid ( ) > 0 { a [ 3 ] = tid ( ) ; }", "0 3: 1 2")
	raceAt(t, 1, 2, "a [ 0 ] = 0 ;", "0 0: 0 1") // also where the same is written
}

func TestRacesInTwoParts(t *testing.T) {
	t.Parallel()
	raceAt(t, 1, 2, "a [ tid ( ) ] = 1 ; barrier ; let x = a [ 1 - tid ( ) ] ;", "")
	raceAt(t, 1, 2, "let x = a [ 0 ] ; barrier ; if tid ( ) == 0 { a [ 0 ] = x ; } barrier ; x = a [ 0 ] ;", "")
	raceAt(t, 1, 2, "if tid ( ) == 0 { a [ 0 ] = 1 ; } barrier ; if tid ( ) == 1 { a [ 0 ] = 1 ; }", "")
	raceAt(t, 1, 2, "if tid ( ) == 0 { a [ 0 ] = 1 ; } barrier ; let x = a [ 0 ] ;", "")
	raceAt(t, 1, 2, "barrier ; barrier ; a [ 0 ] = 1 ; barrier ;", "0 0: 0 1")
	raceAt(t, 1, 2, "a [ tid ( ) ] = 1 ; barrier ; a [ 1 - tid ( ) ] = 2 ; barrier ; a [ 2 ] = a [ 0 ] ;", "0 2: 0 1")
	raceAt(t, 1, 3, "if tid ( ) == 0 { a [ 0 ] = 1 ; } barrier ; if tid ( ) > 0 { a [ 0 ] = 1 ; }", "0 0: 1 2")
}

// Threads of two groups race whatever the parts.
func TestRacesOfTwoGroups(t *testing.T) {
	t.Parallel()
	raceAt(t, 2, 1, "let x = a [ 0 ] ;", "")
	raceAt(t, 2, 1, "a [ tid ( ) ] = a [ tid ( ) ] + 1 ;", "")
	raceAt(t, 2, 1, "a [ 0 ] = 1 ;", "0 0: 0 1")
	raceAt(t, 2, 1, "if group ( ) == 0 { a [ 0 ] = 1 ; } barrier ; if group ( ) == 1 { a [ 0 ] = 1 ; }", "0 0: 0 1")
	raceAt(t, 2, 1, "if group ( ) == 1 { a [ 0 ] = 1 ; } barrier ; barrier ; let x = a [ group ( ) ] ;", "0 0: 0 1")
	raceAt(t, 2, 1, "let x = a [ 0 ] ; barrier ; if group ( ) == 0 { a [ 0 ] = x ; }", "0 0: 0 1")
	raceAt(t, 2, 2, "a [ tid ( ) ] = 1 ; barrier ; let x = a [ group ( ) * 2 + 1 - local ( ) ] ;", "")
	raceAt(t, 2, 2, "a [ local ( ) ] = 1 ;", "0 0: 0 2, 0 1: 1 3")
	raceAt(t, 4, 1, "if tid ( ) == 3 { a [ 1 ] = 1 ; } barrier ; if tid ( ) == 1 { a [ 2 ] = a [ 1 ] ; }", "0 1: 1 3")
	raceAt(t, 2, 2, "if local ( ) == 0 { a [ group ( ) ] = 1 ; } barrier ; let x = a [ group ( ) ] ;", "")
}

// Of more than two threads the two least.
func TestTheTwoLeastThatRace(t *testing.T) {
	t.Parallel()
	raceAt(t, 1, 8, "a [ 2 ] = 1 ;", "0 2: 0 1")
	raceAt(t, 4, 8, "a [ 2 ] = 1 ;", "0 2: 0 1")
	raceAt(t, 1, 8, "if tid ( ) >= 5 { a [ 2 ] = 1 ; }", "0 2: 5 6")
	raceAt(t, 1, 8, "let x = a [ 2 ] ; if tid ( ) == 6 { a [ 2 ] = 1 ; }", "0 2: 0 6")
	raceAt(t, 1, 8, "if tid ( ) > 2 { let x = a [ 2 ] ; } if tid ( ) == 5 { a [ 2 ] = 1 ; }", "0 2: 3 5")
	raceAt(t, 1, 8, "let x = a [ 2 ] ; if tid ( ) == 3 || tid ( ) == 6 { a [ 2 ] = 1 ; }", "0 2: 0 3")
	raceAt(t, 1, 8, "if tid ( ) > 4 { a [ 0 ] = 1 ; } barrier ; if tid ( ) % 3 == 1 { a [ 0 ] = 2 ; }", "0 0: 1 4")
	raceAt(t, 1, 8, "if tid ( ) % 3 == 1 { a [ 0 ] = 1 ; } barrier ; if tid ( ) == 1 || tid ( ) == 2 { a [ 0 ] = 2 ; }", "0 0: 1 2")
	raceAt(t, 2, 4, "if tid ( ) == 0 { a [ 0 ] = 1 ; } barrier ; let x = a [ 0 ] ;", "0 0: 0 4")
	raceAt(t, 2, 4, "if tid ( ) == 7 { a [ 0 ] = 1 ; } barrier ; if tid ( ) > 1 { let x = a [ 0 ] ; }", "0 0: 2 7")
	raceAt(t, 2, 4, "if tid ( ) == 6 { a [ 0 ] = 1 ; } if tid ( ) > 3 { let x = a [ 0 ] ; } barrier ; if tid ( ) == 3 { let x = a [ 0 ] ; }", "0 0: 3 6")
}

// By buffer, then by place; whatever place was touched first.
func TestRacesInOrder(t *testing.T) {
	t.Parallel()
	raceAt(t, 1, 2, "b [ 2 ] = 1 ; a [ 3 ] = 1 ; b [ 0 ] = 1 ; a [ 0 ] = 1 ; a [ 1 ] = 2 ;", "0 0: 0 1, 0 1: 0 1, 0 3: 0 1, 1 0: 0 1, 1 2: 0 1")
	raceAt(t, 1, 2, "for i in 0 .. 4 { a [ 3 - i ] = i ; b [ 3 - i ] = i ; }", "0 0: 0 1, 0 1: 0 1, 0 2: 0 1, 0 3: 0 1, 1 0: 0 1, 1 1: 0 1, 1 2: 0 1")
	raceAt(t, 2, 2, "b [ local ( ) ] = 1 ; a [ group ( ) ] = 1 ;", "0 0: 0 1, 0 1: 2 3, 1 0: 0 2, 1 1: 1 3")
	l := kernelWith(t, "kernel k ( buffer int c , int n , buffer float d , buffer int e ) { e [ 0 ] = n ; c [ 63 ] = n ; d [ 10 ] = n ; d [ 9 ] = n ; }")
	x := impl.Launch{Groups: 2, Size: 1, Words: []uint32{1}, Buffers: [][]uint32{make([]uint32, 64), make([]uint32, 11), make([]uint32, 1)}}
	if got := toldRaces(impl.RacesOf(l, x)); got != "0 63: 0 1, 1 9: 0 1, 1 10: 0 1, 2 0: 0 1" {
		t.Errorf("races %q", got)
	}
}

// Places that are not there do not count; what hangs on another thread's words
// does, as the run goes.
func TestRacesAtPlacesThatAreNotThere(t *testing.T) {
	t.Parallel()
	for _, place := range []string{"4", "0 - 1", "64", "2147483647", "0 - 2147483647 - 1", "a [ 0 ] - 1"} {
		raceAt(t, 2, 2, "a [ "+place+" ] = 1 ; let x = a [ "+place+" ] ;", "")
	}
	raceAt(t, 2, 2, "b [ 3 ] = 1 ; a [ 3 ] = 1 ;", "0 3: 0 1")
	raceAt(t, 1, 2, "a [ a [ 2 ] ] = 1 ;", "0 0: 0 1")
	raceAt(t, 1, 2, "if a [ tid ( ) ] == 0 { a [ 2 + tid ( ) ] = 1 ; } else { a [ 0 ] = 1 ; }", "")
	raceAt(t, 1, 3, "if tid ( ) == 0 { a [ 3 ] = 1 ; } if tid ( ) == 1 { a [ a [ 3 ] ] = 1 ; } if tid ( ) == 2 { a [ 1 ] = 1 ; }", "0 1: 1 2, 0 3: 0 1")
}

// Reads count wherever an expression stands: in bounds, conditions, places and
// what is stored or set.
func TestReadsThatRace(t *testing.T) {
	t.Parallel()
	for _, reads := range []string{"let x = a [ 1 ] ;", "let x = 0 ; x = - a [ 1 ] ;", "a [ 2 ] = a [ 1 ] ;", "a [ a [ 1 ] + 2 ] = 0 ;", "if a [ 1 ] == 0 { }", "if ! ( a [ 1 ] == 0 ) { } else { }", "for i in a [ 1 ] .. 0 { }", "for i in 0 .. a [ 1 ] { }", "let x = a [ a [ 1 ] + 3 ] ;", "let x = fma ( 1 , 2 , a [ 1 ] ) ;", "let x = false && a [ 1 ] == 1 ;", "let x = true || a [ 1 ] == 1 ;", "b [ 1 ] = a [ 1 ] ;"} {
		raceAt(t, 1, 2, "if tid ( ) == 0 { a [ 1 ] = 0 ; } else { "+reads+" }", "0 1: 0 1")
		raceAt(t, 1, 2, "if tid ( ) == 0 { a [ 1 ] = 0 ; } barrier ; if tid ( ) == 1 { "+reads+" }", "")
	}
}

func TestNoRacesBesideACode(t *testing.T) {
	t.Parallel()
	raceAt(t, 1, 2, "a [ 0 ] = 1 ; for i in 0 .. 2000 { }", "0 and false")
	raceAt(t, 5, 2, "a [ 0 ] = 1 ;", "0 and false")
	raceAt(t, 1, 0, "a [ 0 ] = 1 ;", "0 and false")
	if got := toldRaces(impl.RacesOf(nil, launchOf(0))); got != "0 and false" {
		t.Errorf("races of no nodes: %q", got)
	}
}

// watched: what a name is given in a thread.
func watched(t *testing.T, x impl.Launch, statements string, tid int, name string, letter byte, want string) {
	t.Helper()
	l := kernelWith(t, given(statements))
	got, ok := impl.WatchName(l, x, tid, name)
	told := toldWords(got, letter)
	if !ok {
		told = strings.TrimSpace(told + " none")
	}
	if told != want {
		t.Errorf("%q in thread %d of %q: %q, want %q", name, tid, statements, told, want)
	}
	heldWatched(t, l, x, tid, name, wantPlayRising(l, x))
}

func TestWatchedNames(t *testing.T) {
	t.Parallel()
	x := around(2, 2, 10, 20, 30, 40)
	for tid := range 4 {
		watched(t, x, "let x = tid ( ) ; let y = 1 ; x = x * 2 ; x = 7 ;", tid, "x", 'i', strings.Join([]string{strconv.Itoa(tid), strconv.Itoa(tid * 2), "7"}, " "))
		watched(t, x, "for i in 0 .. tid ( ) { let x = 1 ; }", tid, "i", 'i', [...]string{"", "0", "0 1", "0 1 2"}[tid])
	}
	watched(t, x, "let x = 1 ; let y = 2 ;", 0, "y", 'i', "2")
	watched(t, x, "let x = 0.5 ; x = 3 ; x = n / 2 ; x = n / 2.0 ;", 1, "x", 'f', "0.5 3 2 2.5")
	watched(t, x, "let p = n == 5 ; p = ! p ; p = true ;", 1, "p", 'i', "1 0 1")
	watched(t, x, "let x = a [ tid ( ) ] ; a [ tid ( ) ] = x + 1 ; barrier ; x = a [ 3 - tid ( ) ] ;", 3, "x", 'i', "40 11")
	watched(t, x, "let x = a [ tid ( ) ] ; a [ tid ( ) ] = x + 1 ; barrier ; x = a [ 1 - tid ( ) ] ;", 0, "x", 'i', "10 21")
	watched(t, x, "let x = a [ 9 ] ; x = a [ 0 - 1 ] ;", 0, "x", 'i', "0 0")
	watched(t, x, "let größe = 0 - 1 ;", 0, "größe", 'i', "-1")
	watched(t, x, "let n_ = n ;", 2, "n_", 'i', "5")
}

func TestWatchedLoops(t *testing.T) {
	t.Parallel()
	x := around(1, 2, 0)
	watched(t, x, "for i in 2 .. 5 { }", 1, "i", 'i', "2 3 4")
	watched(t, x, "for i in 0 - 2 .. 1 { }", 1, "i", 'i', "-2 -1 0")
	watched(t, x, "for i in 5 .. 5 { }", 0, "i", 'i', "")
	watched(t, x, "for i in 0 .. 2 { for j in i .. 3 { let x = j ; } }", 0, "j", 'i', "0 1 2 1 2")
	watched(t, x, "for i in 0 .. 2 { for j in i .. 3 { let x = j * 10 ; x = x + i ; } }", 0, "x", 'i', "0 0 10 10 20 20 10 11 20 21")
	watched(t, x, "for i in 2147483645 .. 2147483647 { }", 0, "i", 'i', "2147483645 2147483646")
	watched(t, x, "let s = 0 ; for i in 0 .. 4 { if i % 2 == tid ( ) { s = s + i ; } }", 1, "s", 'i', "0 1 4")
}

// A name that stands in several blocks is one here.
func TestWatchedInSeveralBlocks(t *testing.T) {
	t.Parallel()
	x := around(1, 2, 0)
	both := "if tid ( ) == 0 { let x = 1 ; x = 2 ; } else { let x = 0.5 ; } let x = 3 ; x = x + 1 ;"
	watched(t, x, both, 0, "x", 'i', "1 2 3 4")
	watched(t, x, both, 1, "x", 'i', "1056964608 3 4")
	watched(t, x, "for x in 0 .. 2 { } if tid ( ) == 1 { for x in 5 .. 7 { } } let x = 9 ;", 1, "x", 'i', "0 1 5 6 9")
	watched(t, x, "for x in 0 .. 2 { } if tid ( ) == 1 { for x in 5 .. 7 { } } let x = 9 ;", 0, "x", 'i', "0 1 9")
	watched(t, x, "if true { let x = 1 ; } barrier ; if true { let x = 2 ; } barrier ; for x in 3 .. 4 { }", 1, "x", 'i', "1 2 3")
}

func TestWatchedWhereNothingIsGiven(t *testing.T) {
	t.Parallel()
	x := around(1, 2, 0)
	watched(t, x, "if tid ( ) == 1 { let x = 1 ; }", 0, "x", 'i', "")
	watched(t, x, "if tid ( ) == 1 { let x = 1 ; }", 1, "x", 'i', "1")
	watched(t, x, "for i in 0 .. tid ( ) { let x = i ; }", 0, "x", 'i', "")
	watched(t, x, "for i in 0 .. tid ( ) { let x = i ; }", 0, "i", 'i', "")
}

func TestWatchedThatAreNone(t *testing.T) {
	t.Parallel()
	statements := "let x = 1 ; for i in 0 .. 2 { } a [ 0 ] = n ;"
	x := around(2, 3, 0)
	for _, tid := range []int{-1, -6, 6, 7, 1 << 32, -1 << 32, math.MinInt64, math.MaxInt64} {
		watched(t, x, statements, tid, "x", 'i', "none")
		watched(t, x, statements, tid, "i", 'i', "none")
	}
	for _, name := range slices.Concat(notNames, strings.Fields("n f a b k y X xx let for tid local 1 x; i.")) {
		watched(t, x, statements, 0, name, 'i', "none")
	}
	watched(t, x, statements, 5, "x", 'i', "1")
	watched(t, x, "let x = 1 ; for i in 0 .. 4000 { }", 0, "x", 'i', "none")
	watched(t, x, "for i in 0 .. 4000 { } let x = 1 ;", 0, "x", 'i', "none")
	watched(t, around(5, 1), statements, 0, "x", 'i', "none")
	watched(t, around(1, 9), statements, 0, "x", 'i', "none")
}
