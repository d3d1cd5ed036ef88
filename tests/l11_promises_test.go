package tests

import (
	"slices"
	"strings"
	"testing"

	"loop.example/g00053/impl"
)

// sameByWarps: of a launch without races warps leave in the buffers what threads
// leave, where neither run has a code, and do no more than is issued; whether it
// could be tried, and the most entries.
func sameByWarps(t *testing.T, l []impl.Node, x impl.Launch) (bool, int) {
	t.Helper()
	code, ok := impl.CompileKernel(l)
	if !ok || !impl.JoinsFine(code) {
		t.Fatalf("the joins of %v are not fine", l)
	}
	got := impl.RunWarps(code, x)
	if got.Code != 0 && got.Code != impl.RunSteps {
		t.Errorf("%v with %v has the code %d", l, x, got.Code)
	}
	if got.Work > got.Issues*x.Size || got.Work < got.Issues || got.Code == 0 && got.Issues == 0 {
		t.Errorf("%v with %v: %d lanes by %d issues", l, x, got.Work, got.Issues)
	}
	if got.Code != 0 || !isCalm(l, x) {
		return false, 0
	}
	if want := impl.RunKernel(l, x); !sameValues(got.Buffers, want.Buffers) {
		t.Errorf("%v with %v leaves %v, by warps %v", l, x, want.Buffers, got.Buffers)
	}
	// each lane does what its thread does
	if want := impl.RunCode(code, x); want.Code == 0 && (want.Steps != got.Work || !sameValues(got.Buffers, want.Buffers)) {
		t.Errorf("%v with %v: %d steps of threads, %d of lanes", l, x, want.Steps, got.Work)
	}
	return true, got.Deepest
}

// Promise 11: of drawn kernels and launches without races.
func TestPromise11WarpsLeaveWhatThreadsLeave(t *testing.T) {
	t.Parallel()
	c := newChance(210)
	tried, changed, deep := 0, 0, [16]int{}
	for n := range 1500 {
		l := c.someKernel(n)
		x := c.launchFor(l)
		if n%3 > 0 {
			l = c.calmKernel(n%2 == 0, 1+n%5, 0)
			x = c.calmLaunch(l, n%2 == 0)
		}
		ok, deepest := sameByWarps(t, l, x)
		if !ok {
			continue
		}
		tried++
		deep[deepest]++
		if !sameValues(impl.RunKernel(l, x).Buffers, x.Buffers) {
			changed++
		}
	}
	if tried < 800 || changed < 500 || deep[1] < 100 || deep[3] < 100 || deep[5] < 10 {
		t.Errorf("%d are tried, %d change a buffer, the most entries %v", tried, changed, deep)
	}
}

// Promise 11: choices and loops of each form, at lanes that part in every way.
func TestPromise11EveryForm(t *testing.T) {
	t.Parallel()
	parts := 0
	for _, condition := range []string{"tid ( ) == 0", "local ( ) != 0", "local ( ) < 2", "local ( ) % 2 == 0", "local ( ) >= size ( ) - 1", "n == 5", "n != 5", "a [ tid ( ) ] < 3", "b [ 0 ] < float ( tid ( ) )"} {
		for _, form := range []string{
			"if # { a [ tid ( ) ] = 1 ; }", "if # { a [ tid ( ) ] = 1 ; } else { a [ tid ( ) ] = 2 ; }",
			"let x = 1 ; if # { x = 2 ; } a [ tid ( ) ] = x ;", "let x = 1 ; if # { } else { x = x + tid ( ) ; } a [ tid ( ) ] = x ;",
			"let x = 0 ; for i in 0 .. tid ( ) { if # { x = x + i ; } else { x = x * 2 ; } } a [ tid ( ) ] = x ;",
			"let x = 0 ; if # { for i in 0 .. tid ( ) + 1 { x = x + i ; } } a [ tid ( ) ] = x ;",
			"let x = 3 ; if # { if tid ( ) < 3 { x = 1 ; } else { x = 2 ; } x = x + 4 ; } else { if tid ( ) > 1 { x = 5 ; } } a [ tid ( ) ] = x ;",
			"let x = 3 ; if # { x = 4 ; } a [ tid ( ) ] = x ; barrier ; if ! ( n == 0 ) { let y = a [ ( local ( ) + 1 ) % size ( ) + group ( ) * size ( ) ] ; x = x + y ; } barrier ; a [ tid ( ) ] = x ;",
			"for i in 0 .. 3 { for j in i .. local ( ) { if # { a [ tid ( ) ] = a [ tid ( ) ] * 3 + j ; } } }",
		} {
			l := kernelWith(t, given(strings.ReplaceAll(form, "#", condition)))
			for _, x := range []impl.Launch{around(1, 8, 1, 5, 0, 3, 2, 9, 4, 7), around(2, 4, 1, 5, 0, 3, 2, 9, 4, 7), around(4, 2, 0, 0, 9, 9, 1, 9, 9, 1), around(1, 1, 0), around(3, 3, 0, 9, 0, 9, 0, 9, 0, 9, 0)} {
				ok, deepest := sameByWarps(t, l, x)
				if !ok {
					t.Errorf("%q has races or a code", form)
				}
				if deepest > 1 {
					parts++
				}
			}
		}
	}
	if parts < 200 {
		t.Errorf("lanes part in %d runs", parts)
	}
}

// Promise 11: what stands ahead of a kernel's end is issued once a group, with all
// lanes on, wherever they parted.
func TestPromise11AllLanesAreTogetherInTheEnd(t *testing.T) {
	t.Parallel()
	c := newChance(211)
	tried, parts := 0, 0
	for n := range 900 {
		l := c.someKernel(n)
		x := c.launchFor(l)
		if n%3 > 0 {
			l = c.calmKernel(n%2 == 0, 1+n%3, 0)
			x = c.calmLaunch(l, n%2 == 0)
		}
		code, _ := impl.CompileKernel(l)
		end := len(code) - 1
		more := append(slices.Clone(code[:end]), instrs("const 399 0 | barrier | end")...)
		got, again := impl.RunWarps(code, x), impl.RunWarps(more, x)
		if got.Code != 0 || again.Code != 0 || len(more) > impl.MaxCode {
			continue
		}
		tried++
		if got.Deepest > 1 {
			parts++
		}
		if again.Issues != got.Issues+2*x.Groups || again.Work != got.Work+2*x.Groups*x.Size || again.Deepest != got.Deepest || !sameValues(again.Buffers, got.Buffers) {
			t.Errorf("%v with %v: %v, with two more at its end %v", l, x, got, again)
		}
	}
	if tried < 600 || parts < 200 {
		t.Errorf("%d are tried, lanes part in %d", tried, parts)
	}
}

// alone: code whose threads keep to a place of their own, without barriers; its
// joins are any.
func (c chance) alone(n int) []impl.Instr {
	l := c.parting(1 + n%40)
	if n%2 == 0 {
		l = c.nested(n % 6)
	}
	for at, i := range l {
		switch i.Op {
		case impl.IBarrier:
			l[at] = impl.Instr{Op: impl.IMove, D: 9, A: 9}
		case impl.ILoad, impl.IStore:
			l[at].A = 1 // the tid
		}
	}
	return l
}

// Promise 11: wherever lanes part and come together, each does what its thread
// does.
func TestPromise11AnyJoins(t *testing.T) {
	t.Parallel()
	c := newChance(212)
	tried, parts, notFine := 0, 0, 0
	for n := range 3000 {
		l, x := c.alone(n), c.codeLaunch()
		want, got := impl.RunCode(l, x), impl.RunWarps(l, x)
		if got.Code == impl.RunBad || got.Code == impl.RunStuck {
			t.Errorf("%v with %v: %v", l, x, got)
		}
		if want.Code != 0 || got.Code != 0 {
			continue
		}
		tried++
		if got.Deepest > 1 {
			parts++
			if !impl.JoinsFine(l) {
				notFine++
			}
		}
		if got.Work != want.Steps || got.Work > got.Issues*x.Size || !sameValues(got.Buffers, want.Buffers) {
			t.Errorf("%v with %v leaves %v, by warps %v", l, x, want, got)
		}
	}
	if tried < 2500 || parts < 900 || notFine < 300 {
		t.Errorf("%d are tried, lanes part in %d, of which %d are not fine", tried, parts, notFine)
	}
}

// Promise 11: fine code is never stuck at a barrier that stands in no choice.
func TestPromise11FineCodeComesTogether(t *testing.T) {
	t.Parallel()
	c := newChance(213)
	fine, parts := 0, 0
	for n := range 2500 {
		l, x := c.alone(n), c.codeLaunch()
		end := len(l) - 1
		more := append(slices.Clone(l[:end]), instrs("barrier | end")...)
		if !impl.JoinsFine(more) {
			continue
		}
		fine++
		got := impl.RunWarps(more, x)
		if got.Code != 0 && got.Code != impl.RunSteps {
			t.Errorf("%v with %v: %v", more, x, got)
		}
		if got.Deepest > 1 {
			parts++
		}
	}
	if fine < 800 || parts < 300 {
		t.Errorf("%d are fine, lanes part in %d", fine, parts)
	}
}

// Promise 25: instructions with fields of any kind, and no code at all.
func TestPromise25AnyInstructionsForWarps(t *testing.T) {
	t.Parallel()
	newChance(214).anyInstrs(func(l []impl.Instr, x impl.Launch) {
		heldJoins(t, l)
		heldWarps(t, l, x)
	})
	for _, l := range [][]impl.Instr{nil, {}, {{}}, slices.Repeat([]impl.Instr{{}}, 600), slices.Repeat(instrs("end"), 1<<20)} {
		for _, x := range []impl.Launch{{}, spread(1, 1), spread(4, 8, 1, 2)} {
			branches, ok := impl.BranchesOf(l, x)
			if got := impl.RunWarps(l, x); !sameWarped(got, impl.Warped{Code: impl.RunBad}) || len(branches) > 0 || ok || impl.JoinsFine(l) {
				t.Errorf("%d instructions: %v, %v, %v", len(l), got, branches, ok)
			}
		}
	}
}

// Promise 25: launches of any kind.
func TestPromise25LaunchesForWarps(t *testing.T) {
	t.Parallel()
	l := instrs("in 0 1 | in 1 4 | load 2 0 0 | zero 0 5 5 | store 0 1 0 | barrier | load 2 0 15 | store 0 2 1 | end")
	for _, x := range oddLaunches() {
		got, _ := heldWarps(t, l, x)
		if bad := !wantCodeLaunch(x); bad != (got.Code == impl.RunBad) {
			t.Errorf("%v with %v", got, x)
		}
		heldWarps(t, nil, x)
	}
}

// someParting: code and a launch for warps.
func (c chance) someParting(n int) ([]impl.Instr, impl.Launch) {
	if n%2 == 0 {
		return c.nested(n % 6), c.codeLaunch()
	}
	return c.parting(1 + n%40), c.codeLaunch()
}

// Promise 25: nothing is written into code and launches, and no answer shares
// their memory.
func TestPromise25WarpsKeepWhatIsGiven(t *testing.T) {
	t.Parallel()
	c := newChance(215)
	for n := range 400 {
		l, x := c.someParting(n)
		kept := keptLaunch(x)
		apartFrom(t, "BranchesOf", l, func(l []impl.Instr) []impl.Branch { b, _ := impl.BranchesOf(l, kept); return b })
		apartFrom(t, "RunWarps", l, func(l []impl.Instr) []uint32 {
			w := impl.RunWarps(l, kept)
			return append(flat(w.Buffers), wholes(w.Issues, w.Work, w.Deepest, w.Code)...)
		})
		apartFrom(t, "JoinsFine", l, func(l []impl.Instr) []bool { return []bool{impl.JoinsFine(l)} })
		if !launchUnchanged(kept, x) {
			t.Errorf("a launch of %v is changed", l)
		}
	}
}

// ranByWarps: what is told of a run, as chapter 10 tells it.
func ranByWarps(l []impl.Instr, x impl.Launch) impl.Ran {
	w := impl.RunWarps(l, x)
	return impl.Ran{Buffers: w.Buffers, Steps: w.Work, Code: w.Code}
}

// Promise 25: buffers that are answered are new memory.
func TestPromise25NewBuffersOfWarps(t *testing.T) {
	t.Parallel()
	c := newChance(216)
	for n := range 300 {
		l, x := c.someParting(n)
		if n%4 == 0 && len(x.Buffers) > 0 { // all buffers are one list: what is answered is not
			x.Buffers = slices.Repeat(x.Buffers[:1], len(x.Buffers))
		}
		newBuffersOf(t, x, func(x impl.Launch) impl.Ran { return ranByWarps(l, x) })
	}
	empty := make([]uint32, 3)
	x := impl.Launch{Groups: 1, Size: 2, Buffers: [][]uint32{empty[:0], empty[:1]}}
	got := impl.RunWarps(instrs("in 1 1 | const 2 5 | store 0 2 0 | store 0 2 1 | store 1 2 1 | load 3 1 1 | end"), x)
	overwrite(got.Buffers)
	if !slices.Equal(empty, make([]uint32, 3)) || len(got.Buffers[0]) != 0 || len(got.Buffers[1]) != 1 {
		t.Errorf("buffers of %v with something behind: %v", got, empty)
	}
}

// Promise 25: what lies behind the lengths of lists is not looked at.
func TestPromise25BehindCodeForWarps(t *testing.T) {
	t.Parallel()
	c := newChance(217)
	for n := range 300 {
		l, x := c.someParting(n)
		kept := keptLaunch(x)
		more := append(slices.Clone(l), c.anyInstr(), impl.Instr{Op: impl.IBarrier})[:len(l)]
		for i := range kept.Words {
			kept.Words[:2*len(x.Words)][len(x.Words)+i] = c.Uint32()
		}
		for i := range kept.Buffers {
			overwrite([][]uint32{kept.Buffers[i][len(x.Buffers[i]):]})
		}
		heldWarps(t, more, kept)
		heldJoins(t, more)
		if !sameWarped(impl.RunWarps(more, kept), impl.RunWarps(l, x)) || impl.JoinsFine(more) != impl.JoinsFine(l) {
			t.Errorf("%v is told otherwise with something behind", l)
		}
	}
}

// Promise 25: answers hang on what is given alone, whatever was asked between.
func TestPromise25WarpsAgain(t *testing.T) {
	t.Parallel()
	c := newChance(218)
	for n := range 100 {
		l, x := c.someParting(n)
		warped, fine := impl.RunWarps(l, x), impl.JoinsFine(l)
		branches, ok := impl.BranchesOf(l, x)
		for range 3 {
			other, y := c.someParting(c.Intn(40))
			impl.RunWarps(other, y)
			impl.BranchesOf(other, y)
			impl.RunCode(other, y)
			again, okAgain := impl.BranchesOf(slices.Clone(l), keptLaunch(x))
			if !sameWarped(impl.RunWarps(slices.Clone(l), keptLaunch(x)), warped) || !slices.Equal(again, branches) || okAgain != ok || impl.JoinsFine(slices.Clone(l)) != fine {
				t.Errorf("%v is told otherwise again", l)
			}
		}
	}
}
