package tests

import (
	"slices"
	"strings"
	"testing"

	"loop.example/g00053/impl"
)

// sameByPasses: each pass, and Improve, answers good code that is no longer, and
// leaves in the buffers what the code leaves where its run has no code, by no more
// steps; the code of that run.
func sameByPasses(t *testing.T, l []impl.Instr, x impl.Launch) int {
	t.Helper()
	want := impl.RunCode(l, x)
	for _, p := range allPasses() {
		shorter, ok := p.of(l)
		if !ok || !impl.GoodCode(shorter) || len(shorter) > len(l) {
			t.Errorf("%s of %s is %s", p.name, toldCode(l), toldCode(shorter))
			continue
		}
		if want.Code != 0 {
			continue
		}
		got := impl.RunCode(shorter, x)
		if got.Code != 0 || !sameValues(got.Buffers, want.Buffers) || got.Steps > want.Steps {
			t.Errorf("%s with %v leaves %v, by %s %v", toldCode(l), x, want, p.name, got)
		}
	}
	return want.Code
}

// Promise 12: of drawn good code, whatever the launch.
func TestPromise12PassesKeepTheMeaning(t *testing.T) {
	t.Parallel()
	c := newChance(224)
	codes, changed := [4]int{}, 0
	for n := range 2500 {
		l := c.someCode(n)
		for range 2 {
			x := c.codeLaunch()
			code := sameByPasses(t, l, x)
			codes[code]++
			if code == 0 && !sameValues(impl.RunCode(l, x).Buffers, x.Buffers) {
				changed++
			}
		}
	}
	if codes[0] < 3500 || codes[impl.RunStuck] < 50 || codes[impl.RunSteps] < 100 || codes[impl.RunBad] > 0 || changed < 900 {
		t.Errorf("codes %v, %d change a buffer", codes, changed)
	}
}

// Promise 12: of drawn kernels' code; improved it does what the kernel does, and is
// mostly shorter.
func TestPromise12OfKernels(t *testing.T) {
	t.Parallel()
	c := newChance(225)
	tried, changed, before, behind := 0, 0, 0, 0
	for n := range 800 {
		l := c.someKernel(n)
		x := c.launchFor(l)
		if n%5 == 1 {
			x = c.calmLaunch(l, n%2 == 0)
		}
		code, _ := impl.CompileKernel(l)
		improved, _ := impl.Improve(code)
		before += len(code)
		behind += len(improved)
		want := impl.RunKernel(l, x)
		if sameByPasses(t, code, x) != 0 || want.Code != 0 {
			continue
		}
		tried++
		if got := impl.RunCode(improved, x); !sameValues(got.Buffers, want.Buffers) {
			t.Errorf("%v with %v leaves %v, improved %v", l, x, want.Buffers, got.Buffers)
		}
		if !sameValues(want.Buffers, x.Buffers) {
			changed++
		}
	}
	if tried < 500 || changed < 250 || behind*10 > before*9 {
		t.Errorf("%d are tried, %d change a buffer, of %d instructions %d are left", tried, changed, before, behind)
	}
}

// Promise 12: passes in any order, one after the other.
func TestPromise12PassesInAnyOrder(t *testing.T) {
	t.Parallel()
	c := newChance(226)
	tried := 0
	for n := range 2000 {
		l, x := c.someCode(n), c.codeLaunch()
		want := impl.RunCode(l, x)
		if want.Code != 0 {
			continue
		}
		tried++
		passed := l
		var names []string
		for range 8 {
			p := passes()[c.Intn(5)]
			passed, _ = p.of(passed)
			names = append(names, p.name)
		}
		if got := impl.RunCode(passed, x); got.Code != 0 || !sameValues(got.Buffers, want.Buffers) {
			t.Errorf("%s with %v leaves %v, by %v %v", toldCode(l), x, want, names, got)
		}
	}
	if tried < 1200 {
		t.Errorf("%d are tried", tried)
	}
}

// Promise 12: each statement, at operands of which some are known.
func TestPromise12EveryStatement(t *testing.T) {
	t.Parallel()
	shorter := 0
	for _, text := range []string{"7", "- 7", "n", "n + 2 * 3", "2 * 3 - 6", "a [ 1 ]", "tid ( )", "local ( ) - 3", "n / 0", "5 / 0", "5 % 0", "7 << 33", "- 7 >> 1", "abs ( - 7 )", "min ( 3 , 2 )", "max ( n , 4 )", "int ( 2.5 )", "int ( - f )", "2147483647 + 1", "- 2147483647 - 1 - n"} {
		for _, form := range []string{"a [ 0 ] = # ;", "a [ # ] = 7 ;", "b [ 1 ] = # ;", "let x = # ; let y = x ; x = y * 2 ; a [ 2 ] = x + y ;", "let x = 0.5 ; x = # ; b [ 0 ] = x / 2 ;", "for i in # .. ( # ) + 2 { a [ i ] = i ; }", "for i in 0 .. ( # ) % 5 { a [ tid ( ) ] = a [ tid ( ) ] * 3 + i ; }", "if ( # ) < 2 && 1 == 1 { a [ 1 ] = 1 ; } else { a [ 2 ] = 1 ; }", "if ( # ) != ( # ) { a [ 1 ] = 1 ; } else { a [ 2 ] = # ; }", "if ! ( ( # ) == n ) { a [ 1 ] = 1 ; }", "let x = # ; if x == 7 { if x != 7 { a [ 0 ] = 9 ; } x = 8 ; } else { x = 5 ; } a [ 1 ] = x ;", "b [ 2 ] = fma ( # , 1.5 , f ) ;", "b [ 0 ] = sqrt ( # ) ; b [ 1 ] = - float ( # ) ;", "a [ tid ( ) ] = # ; barrier ; a [ 3 - tid ( ) ] = a [ tid ( ) ] + ( # ) ;"} {
			code, ok := impl.CompileKernel(kernelWith(t, given(strings.ReplaceAll(form, "#", text))))
			if !ok {
				t.Fatalf("%q has no code", form)
			}
			if improved, _ := impl.Improve(code); len(improved) < len(code) {
				shorter++
			}
			for _, x := range []impl.Launch{around(2, 2, 1, 2, 3, 4), around(1, 4, 0, -1, 9, 2), around(1, 1)} {
				if code := sameByPasses(t, code, x); code != 0 {
					t.Errorf("%q for %q has the code %d", text, form, code)
				}
			}
		}
	}
	if shorter < 200 {
		t.Errorf("%d are shorter", shorter)
	}
}

// Promise 12: all words of a lane go through a pass bit by bit.
func TestPromise12AnyWords(t *testing.T) {
	t.Parallel()
	c := newChance(227)
	for range 600 {
		l := c.copying(4 + c.Intn(30))
		for at, i := range l {
			if i.Op == impl.IConst {
				l[at].Word = [...]uint32{edgeWords[c.Intn(len(edgeWords))], c.Uint32(), c.word(), 0}[c.Intn(4)]
			}
		}
		l = append(instrs("in 0 0 | in 1 4"), l[:len(l)-1]...)
		for reg := range 6 {
			l = append(l, impl.Instr{Op: impl.IConst, D: 9, Word: uint32(reg)}, impl.Instr{Op: impl.IStore, A: 9, B: reg})
		}
		l = append(l, impl.Instr{Op: impl.IEnd})
		sameByPasses(t, l, impl.Launch{Groups: 1, Size: 1, Words: []uint32{c.word()}, Buffers: [][]uint32{c.words(6)}})
	}
}

// notPassed: the zero answer and false by all of chapter 12.
func notPassed(t *testing.T, l []impl.Instr) {
	t.Helper()
	if got, ok := impl.ReachedOf(l); ok || len(got) > 0 {
		t.Errorf("ReachedOf of %d that are no good code: %v", len(l), got)
	}
	for _, p := range allPasses() {
		if got, ok := p.of(l); ok || len(got) > 0 {
			t.Errorf("%s of %d that are no good code: %v", p.name, len(l), got)
		}
	}
}

// Promise 25: instructions with fields of any kind.
func TestPromise25AnyInstructionsForPasses(t *testing.T) {
	t.Parallel()
	good := 0
	newChance(228).anyInstrs(func(l []impl.Instr, _ impl.Launch) {
		if wantCode(l) {
			good++
			heldPasses(t, l)
		} else {
			notPassed(t, l)
		}
	})
	if good < 50 {
		t.Errorf("%d are good", good)
	}
}

// Promise 25: no code at all, too much of it, and code that ends as it must not.
func TestPromise25NoCodeForPasses(t *testing.T) {
	t.Parallel()
	for _, l := range [][]impl.Instr{nil, {}, {{}}, slices.Repeat([]impl.Instr{{}}, 600), slices.Repeat(instrs("end"), 601), slices.Repeat(instrs("end"), 1<<20), slices.Repeat(instrs("jump 0"), 601)} {
		notPassed(t, l)
	}
	for _, line := range strings.Split(everyOp, "|") {
		if l := instrs("barrier | " + line); !endsWell(l) {
			notPassed(t, l)
			notPassed(t, l[1:])
		}
	}
	heldPasses(t, slices.Repeat(instrs("end"), 600))
	heldPasses(t, slices.Repeat(instrs("jump 0"), 600))
}

// Promise 25: good code with one thing changed.
func TestPromise25PassesWithOneChange(t *testing.T) {
	t.Parallel()
	c := newChance(229)
	good := 0
	for n := range 4000 {
		l := c.someCode(n)
		at := c.Intn(len(l))
		l[at] = c.changedInstr(l[at], len(l))
		if wantCode(l) {
			good++
			heldPasses(t, l)
		} else {
			notPassed(t, l)
		}
	}
	if good < 300 || good > 3000 {
		t.Errorf("%d of 4000 are good", good)
	}
}

// Promise 25: nothing is written into code, and no answer shares its memory, or
// that of another one.
func TestPromise25PassesKeepWhatIsGiven(t *testing.T) {
	t.Parallel()
	c := newChance(230)
	for n := range 600 {
		l := c.someCode(n)
		if n%3 == 0 { // no pass changes it any more
			l, _ = impl.Improve(l)
		}
		apartFrom(t, "ReachedOf", l, func(l []impl.Instr) []bool { reached, _ := impl.ReachedOf(l); return reached })
		for _, p := range allPasses() {
			apartFrom(t, p.name, l, func(l []impl.Instr) []impl.Instr { code, _ := p.of(l); return code })
		}
	}
}

// Promise 25: what lies behind the length of code is not looked at.
func TestPromise25BehindCodeForPasses(t *testing.T) {
	t.Parallel()
	c := newChance(231)
	for n := range 400 {
		l := c.someCode(n)
		more := append(slices.Clone(l), c.anyInstr(), impl.Instr{Op: impl.IBarrier}, impl.Instr{Op: impl.IEnd})[:len(l)]
		heldPasses(t, more)
		notPassed(t, more[:0])
	}
}

// Promise 25: answers hang on what is given alone, whatever was asked between.
func TestPromise25PassesAgain(t *testing.T) {
	t.Parallel()
	c := newChance(232)
	for n := range 200 {
		l := c.someCode(n)
		var first [][]impl.Instr
		for _, p := range allPasses() {
			code, _ := p.of(l)
			first = append(first, code)
		}
		for range 2 {
			other := c.someCode(c.Intn(80))
			impl.ReachedOf(other)
			for at, p := range allPasses() {
				p.of(other)
				notPassed(t, nil)
				if again, ok := p.of(slices.Clone(l)); !ok || !slices.Equal(again, first[at]) {
					t.Errorf("%s of %v is told otherwise again", p.name, l)
				}
			}
		}
	}
}
