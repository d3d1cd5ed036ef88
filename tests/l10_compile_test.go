package tests

import (
	"slices"
	"strconv"
	"strings"
	"testing"

	"loop.example/g00053/impl"
)

// What kernels become, instruction by instruction, written out.

// becomes: what the statements of `given` become behind the two IIns of its
// parameters and ahead of the IEnd.
func becomes(t *testing.T, statements, want string) {
	t.Helper()
	text := "in 0 4\nin 1 5\n"
	for _, line := range strings.Split(want, " | ") {
		if line != "" {
			text += line + "\n"
		}
	}
	compiled(t, given(statements), text+"end\n")
}

// compiled: the text of a kernel's code.
func compiled(t *testing.T, source, want string) {
	t.Helper()
	l := kernelWith(t, source)
	code, ok := impl.CompileKernel(l)
	got, good := impl.CodeText(code)
	if got != want || !ok || !good {
		t.Errorf("%q becomes %q, %v, want %q", source, got, ok, want)
	}
	heldCompiled(t, l)
	heldCode(t, code)
}

func TestParametersBecomeRegisters(t *testing.T) {
	t.Parallel()
	compiled(t, "kernel k ( ) { }", "end\n")
	compiled(t, "kernel k ( int n ) { }", "in 0 4\nend\n")
	compiled(t, "kernel k ( float n ) { }", "in 0 4\nend\n")
	compiled(t, "kernel k ( buffer int a ) { }", "end\n")
	compiled(t, "kernel k ( buffer int a , int n , buffer float b , float f ) { }", "in 0 4\nin 1 5\nend\n")
	compiled(t, "kernel k ( int a , float b , int c , float d , int e , int f ) { let x = f ; }", "in 0 4\nin 1 5\nin 2 6\nin 3 7\nin 4 8\nin 5 9\nmove 6 5\nend\n")
	compiled(t, "kernel k ( buffer float c , int n , buffer int d , float f , int m , buffer int e ) { e [ n ] = m ; c [ m ] = f ; d [ 0 ] = d [ n ] ; }", "in 0 4\nin 1 5\nin 2 6\nstore 0 2 2\nstore 2 1 0\nconst 3 0\nload 4 0 1\nstore 3 4 1\nend\n")
	becomes(t, "", "")
	becomes(t, "let x = n ; let y = f ;", "move 2 0 | move 3 1")
}

func TestNumbersBecomeConstants(t *testing.T) {
	t.Parallel()
	becomes(t, "let x = 0 ;", "const 2 0 | move 3 2")
	becomes(t, "let x = 2147483647 ;", "const 2 2147483647 | move 3 2")
	becomes(t, "let x = 0.0 ;", "const 2 0 | move 3 2")
	becomes(t, "let x = 1.5 ;", "const 2 1069547520 | move 3 2")
	becomes(t, "let x = 0.000000001 ;", "const 2 814313567 | move 3 2")
	becomes(t, "let x = true ;", "const 2 1 | move 3 2")
	becomes(t, "let x = false ;", "const 2 0 | move 3 2")
	becomes(t, "let x = 1 ; let y = 1 ; let z = y ;", "const 2 1 | move 3 2 | const 4 1 | move 5 4 | move 6 5")
}

// `-` of whole numbers has its nought ahead of the operand's instructions and
// registers.
func TestSignsAheadAreCompiled(t *testing.T) {
	t.Parallel()
	becomes(t, "let x = - n ;", "const 2 0 | op 3 2 0 41 | move 4 3")
	becomes(t, "let x = - 7 ;", "const 2 0 | const 3 7 | op 4 2 3 41 | move 5 4")
	becomes(t, "let x = - - 7 ;", "const 2 0 | const 3 0 | const 4 7 | op 5 3 4 41 | op 6 2 5 41 | move 7 6")
	becomes(t, "let x = - ( n + 1 ) ;", "const 2 0 | const 3 1 | op 4 0 3 33 | op 5 2 4 41 | move 6 5")
	becomes(t, "let x = - a [ - n ] ;", "const 2 0 | const 3 0 | op 4 3 0 41 | load 5 4 0 | op 6 2 5 41 | move 7 6")
	becomes(t, "let x = - f ;", "neg 2 1 | move 3 2")
	becomes(t, "let x = - - 0.5 ;", "const 2 1056964608 | neg 3 2 | neg 4 3 | move 5 4")
	becomes(t, "let x = - ( n + f ) ;", "call 2 0 0 0 5 | op 3 2 1 34 | neg 4 3 | move 5 4")
	becomes(t, "let x = ! true ;", "const 2 1 | not 3 2 | move 4 3")
	becomes(t, "let x = ! ! ( n < 3 ) ;", "const 2 3 | op 3 0 2 61 | not 4 3 | not 5 4 | move 6 5")
	becomes(t, "let x = 1 - - n ;", "const 2 1 | const 3 0 | op 4 3 0 41 | op 5 2 4 41 | move 6 5")
}

// The number of a sign is that in the whole list.
func TestSignsAreCompiled(t *testing.T) {
	t.Parallel()
	for sign, word := range map[string]int{"!=": 5, "%": 9, "&": 13, "*": 29, "+": 33, "-": 41, "/": 49, "<": 61, "<<": 65, "<=": 69, "==": 77, ">": 81, ">=": 85, ">>": 89, "^": 101, "|": 109} {
		becomes(t, "let x = n "+sign+" n ;", "op 2 0 0 "+strconv.Itoa(word)+" | move 3 2")
		if !strings.Contains("% & << >> ^ |", sign) {
			becomes(t, "let x = f "+sign+" f ;", "op 2 1 1 "+strconv.Itoa(word+1)+" | move 3 2")
		}
	}
	for sign, word := range map[string]int{"!=": 7, "&&": 19, "==": 79, "||": 115} {
		becomes(t, "let x = true "+sign+" false ;", "const 2 1 | const 3 0 | op 4 2 3 "+strconv.Itoa(word)+" | move 5 4")
	}
	becomes(t, "let x = n - 1 - 2 ;", "const 2 1 | op 3 0 2 41 | const 4 2 | op 5 3 4 41 | move 6 5")
	becomes(t, "let x = n - ( 1 - 2 ) ;", "const 2 1 | const 3 2 | op 4 2 3 41 | op 5 0 4 41 | move 6 5")
}

// What is made a float is made one right ahead of the instruction that wants it.
func TestWholesBecomeFloats(t *testing.T) {
	t.Parallel()
	becomes(t, "let x = n + f ;", "call 2 0 0 0 5 | op 3 2 1 34 | move 4 3")
	becomes(t, "let x = f + n ;", "call 2 0 0 0 5 | op 3 1 2 34 | move 4 3")
	becomes(t, "let x = 1 + 0.5 ;", "const 2 1 | const 3 1056964608 | call 4 2 0 0 5 | op 5 4 3 34 | move 6 5")
	becomes(t, "let x = 0.5 + 1 ;", "const 2 1056964608 | const 3 1 | call 4 3 0 0 5 | op 5 2 4 34 | move 6 5")
	becomes(t, "let x = ( n + 1 ) * ( f - n ) ;", "const 2 1 | op 3 0 2 33 | call 4 0 0 0 5 | op 5 1 4 42 | call 6 3 0 0 5 | op 7 6 5 30 | move 8 7")
	becomes(t, "let x = n < f ;", "call 2 0 0 0 5 | op 3 2 1 62 | move 4 3")
	becomes(t, "let x = f == n ;", "call 2 0 0 0 5 | op 3 1 2 78 | move 4 3")
	becomes(t, "let x = min ( n , f ) ;", "call 2 0 0 0 5 | call 3 2 1 0 30 | move 4 3")
	becomes(t, "let x = max ( f , n ) ;", "call 2 0 0 0 5 | call 3 1 2 0 26 | move 4 3")
	becomes(t, "let x = fma ( n , n , n ) ;", "call 2 0 0 0 5 | call 3 0 0 0 5 | call 4 0 0 0 5 | call 5 2 3 4 10 | move 6 5")
	becomes(t, "let x = fma ( 1 , f , 2 ) ;", "const 2 1 | const 3 2 | call 4 2 0 0 5 | call 5 3 0 0 5 | call 6 4 1 5 10 | move 7 6")
	becomes(t, "let x = fma ( f , 3 , f ) ;", "const 2 3 | call 3 2 0 0 5 | call 4 1 3 1 10 | move 5 4")
	becomes(t, "let x = sqrt ( n ) ;", "call 2 0 0 0 5 | call 3 2 0 0 38 | move 4 3")
	becomes(t, "let x = f ; x = n ;", "move 2 1 | call 3 0 0 0 5 | move 2 3")
	becomes(t, "let x = f ; x = 1 + n ;", "move 2 1 | const 3 1 | op 4 3 0 33 | call 5 4 0 0 5 | move 2 5")
	becomes(t, "b [ n ] = n ;", "call 2 0 0 0 5 | store 0 2 1")
	becomes(t, "b [ 1 ] = 2 ;", "const 2 1 | const 3 2 | call 4 3 0 0 5 | store 2 4 1")
	becomes(t, "b [ 1 ] = f ; a [ 1 ] = n ;", "const 2 1 | store 2 1 1 | const 3 1 | store 3 0 0")
	becomes(t, "let x = n ; x = 2 ;", "move 2 0 | const 3 2 | move 2 3")
	becomes(t, "b [ 0 ] = a [ 1 ] ; b [ 0 ] = b [ 1 ] ;", "const 2 0 | const 3 1 | load 4 3 0 | call 5 4 0 0 5 | store 2 5 1 | const 6 0 | const 7 1 | load 8 7 1 | store 6 8 1")
}

func TestCallsAreCompiled(t *testing.T) {
	t.Parallel()
	becomes(t, "let x = tid ( ) + local ( ) + group ( ) + size ( ) ;", "in 2 0 | in 3 1 | op 4 2 3 33 | in 5 2 | op 6 4 5 33 | in 7 3 | op 8 6 7 33 | move 9 8")
	becomes(t, "let x = abs ( n ) ;", "call 2 0 0 0 1 | move 3 2")
	becomes(t, "let x = abs ( f ) ;", "call 2 1 0 0 2 | move 3 2")
	becomes(t, "let x = float ( n ) ;", "call 2 0 0 0 5 | move 3 2")
	becomes(t, "let x = float ( f ) ;", "call 2 1 0 0 6 | move 3 2")
	becomes(t, "let x = int ( n ) ;", "call 2 0 0 0 17 | move 3 2")
	becomes(t, "let x = int ( f ) ;", "call 2 1 0 0 18 | move 3 2")
	becomes(t, "let x = min ( n , 3 ) ;", "const 2 3 | call 3 0 2 0 29 | move 4 3")
	becomes(t, "let x = max ( 3 , n ) ;", "const 2 3 | call 3 2 0 0 25 | move 4 3")
	becomes(t, "let x = min ( f , f ) ;", "call 2 1 1 0 30 | move 3 2")
	becomes(t, "let x = fma ( f , f , f ) ;", "call 2 1 1 1 10 | move 3 2")
	becomes(t, "let x = sqrt ( f ) ;", "call 2 1 0 0 38 | move 3 2")
	becomes(t, "let x = sqrt ( float ( n ) ) ;", "call 2 0 0 0 5 | call 3 2 0 0 38 | move 4 3")
	becomes(t, "let x = max ( tid ( ) , min ( n , size ( ) ) ) ;", "in 2 0 | in 3 3 | call 4 0 3 0 29 | call 5 2 4 0 25 | move 6 5")
}

func TestLoadsAndStoresAreCompiled(t *testing.T) {
	t.Parallel()
	becomes(t, "a [ n ] = n ;", "store 0 0 0")
	becomes(t, "b [ n ] = f ;", "store 0 1 1")
	becomes(t, "a [ a [ n ] ] = a [ a [ 0 ] ] ;", "load 2 0 0 | const 3 0 | load 4 3 0 | load 5 4 0 | store 2 5 0")
	becomes(t, "a [ n + 1 ] = n + 2 ;", "const 2 1 | op 3 0 2 33 | const 4 2 | op 5 0 4 33 | store 3 5 0")
	becomes(t, "let x = b [ 0 ] ;", "const 2 0 | load 3 2 1 | move 4 3")
}

func TestIfsAreCompiled(t *testing.T) {
	t.Parallel()
	becomes(t, "if true { }", "const 2 1 | zero 2 4 4")
	becomes(t, "if true { } else { }", "const 2 1 | zero 2 5 5 | jump 5")
	becomes(t, "if n < 3 { a [ n ] = n ; }", "const 2 3 | op 3 0 2 61 | zero 3 6 6 | store 0 0 0")
	becomes(t, "if n < 3 { a [ n ] = n ; } b [ n ] = f ;", "const 2 3 | op 3 0 2 61 | zero 3 6 6 | store 0 0 0 | store 0 1 1")
	becomes(t, "if true { a [ n ] = n ; } else { b [ n ] = f ; }", "const 2 1 | zero 2 6 7 | store 0 0 0 | jump 7 | store 0 1 1")
	becomes(t, "if true { } else { b [ n ] = f ; }", "const 2 1 | zero 2 5 6 | jump 6 | store 0 1 1")
	becomes(t, "if true { a [ n ] = n ; } else { }", "const 2 1 | zero 2 6 6 | store 0 0 0 | jump 6")
	becomes(t, "let p = true ; if p { } if p { } else { }", "const 2 1 | move 3 2 | zero 3 5 5 | zero 3 7 7 | jump 7")
	// one within the other
	becomes(t, "if true { if false { a [ n ] = n ; } }", "const 2 1 | zero 2 7 7 | const 3 0 | zero 3 7 7 | store 0 0 0")
	becomes(t, "if true { if false { a [ n ] = n ; } else { } } else { b [ n ] = f ; }", "const 2 1 | zero 2 9 10 | const 3 0 | zero 3 8 8 | store 0 0 0 | jump 8 | jump 10 | store 0 1 1")
	becomes(t, "if true { } else { if false { a [ n ] = n ; } else { b [ n ] = f ; } }", "const 2 1 | zero 2 5 10 | jump 10 | const 3 0 | zero 3 9 10 | store 0 0 0 | jump 10 | store 0 1 1")
}

func TestLoopsAreCompiled(t *testing.T) {
	t.Parallel()
	becomes(t, "for i in 0 .. n { }", "const 2 0 | move 3 2 | move 4 0 | op 5 3 4 61 | zero 5 11 11 | const 6 1 | op 7 3 6 33 | move 3 7 | jump 5")
	becomes(t, "for i in n .. 5 { }", "move 2 0 | const 3 5 | move 4 3 | op 5 2 4 61 | zero 5 11 11 | const 6 1 | op 7 2 6 33 | move 2 7 | jump 5")
	becomes(t, "for i in n .. n { a [ i ] = i ; } a [ n ] = n ;", "move 2 0 | move 3 0 | op 4 2 3 61 | zero 4 11 11 | store 2 2 0 | const 5 1 | op 6 2 5 33 | move 2 6 | jump 4 | store 0 0 0")
	becomes(t, "for i in a [ 0 ] .. n + 1 { let x = i ; }", "const 2 0 | load 3 2 0 | move 4 3 | const 5 1 | op 6 0 5 33 | move 7 6 | op 8 4 7 61 | zero 8 15 15 | move 9 4 | const 10 1 | op 11 4 10 33 | move 4 11 | jump 8")
	// a loop within a loop
	becomes(t, "for i in n .. n { for j in i .. n { a [ i ] = j ; } }", "move 2 0 | move 3 0 | op 4 2 3 61 | zero 4 19 19 | move 5 2 | move 6 0 | op 7 5 6 61 | zero 7 15 15 | store 2 5 0 | const 8 1 | op 9 5 8 33 | move 5 9 | jump 8 | const 10 1 | op 11 2 10 33 | move 2 11 | jump 4")
	becomes(t, "for i in n .. n { if i == n { let x = i ; } else { } }", "move 2 0 | move 3 0 | op 4 2 3 61 | zero 4 14 14 | op 5 2 0 77 | zero 5 10 10 | move 6 2 | jump 10 | const 7 1 | op 8 2 7 33 | move 2 8 | jump 4")
}

// Names of one text in several blocks have registers of their own.
func TestNamesOfOneTextAreCompiled(t *testing.T) {
	t.Parallel()
	becomes(t, "if true { let x = n ; x = x ; } else { let x = f ; x = x ; } let x = n ; x = x ;", "const 2 1 | zero 2 7 9 | move 3 0 | move 3 3 | jump 9 | move 4 1 | move 4 4 | move 5 0 | move 5 5")
	becomes(t, "for x in n .. n { let y = x ; } for x in n .. n { let y = x ; }", "move 2 0 | move 3 0 | op 4 2 3 61 | zero 4 11 11 | move 5 2 | const 6 1 | op 7 2 6 33 | move 2 7 | jump 4 | move 8 0 | move 9 0 | op 10 8 9 61 | zero 10 20 20 | move 11 8 | const 12 1 | op 13 8 12 33 | move 8 13 | jump 13")
	becomes(t, "if true { let y = n ; } let x = f ; if true { let y = x ; x = y ; } x = f ;", "const 2 1 | zero 2 5 5 | move 3 0 | move 4 1 | const 5 1 | zero 5 10 10 | move 6 4 | move 4 6 | move 4 1")
	becomes(t, "let k = n ; k = k ;", "move 2 0 | move 2 2")
	becomes(t, "let größe = n ; a [ größe ] = größe ;", "move 2 0 | store 2 2 0")
}

func TestBarriersAreCompiled(t *testing.T) {
	t.Parallel()
	becomes(t, "barrier ;", "barrier")
	becomes(t, "barrier ; a [ n ] = n ; barrier ; barrier ;", "barrier | store 0 0 0 | barrier | barrier")
}

// notCompiled: lists that are no kernels with types.
func notCompiled(t *testing.T, l []impl.Node) {
	t.Helper()
	if got, ok := impl.CompileKernel(l); ok || len(got) > 0 {
		t.Errorf("CompileKernel(%v) = %v, %v", l, got, ok)
	}
}

func TestKernelsWithoutTypesAreNotCompiled(t *testing.T) {
	t.Parallel()
	for _, fault := range faultyStatements {
		l := impl.ReadKernel(given(fault.text)).Nodes
		if len(l) == 0 {
			t.Fatalf("%q is no kernel", fault.text)
		}
		notCompiled(t, l)
	}
	notCompiled(t, nil)
	notCompiled(t, []impl.Node{})
	for _, text := range []string{"15 0", "16 k 0", "16 k 1, 15 0, 14 0", "17 n 0", "16 k 1, 15 1, 9 x 1, 4 y 0", "16 k 3, 17 n 0, 17 n 0, 15 0"} {
		notCompiled(t, nodesOf(text))
	}
}

// kernelOfMany: a kernel of so many of each statement, one behind the other; its
// source may be too long to be read.
func kernelOfMany(counts ...any) []impl.Node {
	l := []impl.Node{{Kind: impl.NKernel, Text: "k", Kids: 1}, {Kind: impl.NBlock}}
	for i := 0; i < len(counts); i += 2 {
		statement := impl.ReadKernel("kernel k ( ) { " + counts[i+1].(string) + " }").Nodes[2:]
		l = append(l, slices.Repeat(statement, counts[i].(int))...)
		l[1].Kids += counts[i].(int)
	}
	return l
}

// The most registers, and one more. A loop between two numbers has 7 of them and
// 10 instructions, a choice by a bool 1 and 2, a name that is given a number 2 and
// 2, a barrier none and 1.
func TestRegistersAtTheirLimit(t *testing.T) {
	t.Parallel()
	loop, let, choice := "for i in 0 .. 0 { }", "if true { let x = 1 ; }", "if true { }"
	for _, at := range []struct {
		l    []impl.Node
		regs int
		code int
	}{
		{kernelOfMany(57, loop), 399, 571},
		{kernelOfMany(57, loop, 1, choice), 400, 573},
		{kernelOfMany(57, loop, 2, choice), 401, 575},
		{kernelOfMany(56, loop, 2, let, 2, choice), 400, 573},
		{kernelOfMany(56, loop, 3, let), 401, 573},
		{kernelOfMany(58, loop), 406, 581},
		{kernelOfMany(57, loop, 1, choice, 17, "barrier ;"), 400, 590},
		{kernelOfMany(57, loop, 20, "barrier ;"), 399, 591},
		{kernelOfMany(40, loop, 20, choice), 300, 441},
	} {
		if !wantGood(at.l) {
			t.Fatalf("%v is no kernel", at.l)
		}
		written, regs := paperOf(at.l).numbered()
		if regs != at.regs || len(written) != at.code {
			t.Errorf("%d registers and %d instructions, want %d and %d", regs, len(written), at.regs, at.code)
		}
		code, ok := heldCompiled(t, at.l)
		if want := at.regs <= 400; ok != want || want && (len(code) != at.code || impl.RegsOf(code) != at.regs) {
			t.Errorf("%d registers and %d instructions: %v, %d", at.regs, at.code, ok, len(code))
		}
	}
}

// Code of as many instructions as there may be, and one more, has more registers
// than there may be: all instructions but those of NSet, NStore, NIf, NBarrier,
// three of each NFor, and the last one write a new one. So no kernel of 250 nodes
// has more than 591 instructions beside 400 registers.
func TestCodeAtItsLimit(t *testing.T) {
	t.Parallel()
	loop := "for i in 0 .. 0 { }"
	for code, l := range map[int][]impl.Node{
		591: kernelOfMany(57, loop, 20, "barrier ;"),
		599: kernelOfMany(59, loop, 8, "barrier ;"),
		600: kernelOfMany(59, loop, 9, "barrier ;"),
		601: kernelOfMany(60, loop),
		602: kernelOfMany(60, loop, 1, "barrier ;"),
		615: kernelOfMany(61, loop, 4, "barrier ;"),
	} {
		written, regs := paperOf(l).numbered()
		if len(written) != code || !wantGood(l) || regs <= 400 != (code <= 591) {
			t.Fatalf("%d instructions and %d registers, want %d", len(written), regs, code)
		}
		if got, ok := heldCompiled(t, l); ok != (code <= 591) || ok && len(got) != code {
			t.Errorf("code of %d instructions: %v", code, ok)
		}
	}
}

// Kernels with as many nodes, and as deep, as they may be.
func TestGreatestKernelsAreCompiled(t *testing.T) {
	t.Parallel()
	l := kernelWith(t, given("a [ - 0 ] = n"+strings.Repeat(" + n", 120)+" ;"))
	code, ok := heldCompiled(t, l)
	if !ok || len(l) != impl.MaxNodes || len(code) != 2+3+120+1+1 || impl.RegsOf(code) != 2+3+120 {
		t.Errorf("a sum: %d instructions, %d registers", len(code), impl.RegsOf(code))
	}
	deep := kernelWith(t, given(nested(9, "let x = n ;")))
	if code, ok := heldCompiled(t, deep); !ok || len(code) != 2+9*3+1+1 {
		t.Errorf("a deep kernel: %v, %v", code, ok)
	}
}
