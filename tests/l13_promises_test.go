package tests

import (
	"math"
	"slices"
	"strings"
	"testing"

	"loop.example/g00053/impl"
)

// sharing: the pairs of registers with one place or slot that live behind one
// instruction which is reached.
func (s *study) sharing(a impl.Alloc) map[[2]int]bool {
	pairs := map[[2]int]bool{}
	reached := wantReached(s.l)
	for at, regs := range s.live {
		for n, one := range regs {
			for _, other := range regs[n+1:] {
				if reached[at] && a.Where[one] == a.Where[other] {
					pairs[[2]int{one, other}] = true
				}
			}
		}
	}
	return pairs
}

// Promise 13: no two that live at once share, but a copy with what it is a copy of;
// wherever there are enough places and nothing is moved, none do.
func TestPromise13NoTwoThatLiveAtOnceShare(t *testing.T) {
	t.Parallel()
	c := newChance(237)
	copies, without := 0, 0
	for n := range 2400 {
		s := studied(c.codeForRegisters(n))
		places := c.somePlaces()
		a, ok := impl.AllocOf(s.l, places)
		if !ok || !impl.AllocHolds(s.l, a, places) {
			t.Errorf("%s: %v does not hold for %d", toldCode(s.l), a, places)
			continue
		}
		pairs := s.sharing(a)
		for two := range pairs {
			copied := func(i impl.Instr) bool {
				return i.Op == impl.IMove && (i.D == two[0] && i.A == two[1] || i.D == two[1] && i.A == two[0])
			}
			if !slices.ContainsFunc(s.l, copied) || s.clashes(two[0], two[1]) {
				t.Errorf("%s: %v live at once and share by %v", toldCode(s.l), two, a)
			}
		}
		if len(pairs) > 0 {
			copies++
		} else if s.pressure() > 1 {
			without++
		}
	}
	if copies < 50 || without < 1000 {
		t.Errorf("in %d copies share, in %d none do", copies, without)
	}
}

// Promise 13: step by step, those that live and share have one word.
func TestPromise13SharedWords(t *testing.T) {
	t.Parallel()
	c := newChance(238)
	held, shared := 0, 0
	for n := range 1200 {
		s := studied(c.codeForRegisters(n))
		a, _ := impl.AllocOf(s.l, c.somePlaces())
		walk := &stroll{code: s.l, x: c.codeLaunch(), written: map[[2]int]uint32{}, did: map[int]int{}}
		walk.group = []*walker{{regs: map[int]uint32{}}}
		for range 400 {
			w := walk.next()
			if w == nil {
				break
			}
			at := w.at
			walk.walk(w)
			kept := map[int]uint32{}
			for _, reg := range s.live[at] {
				word, is := kept[a.Where[reg]]
				if is && word != w.regs[reg] {
					t.Errorf("%s by %v: behind %d register %d has %d, not %d", toldCode(s.l), a, at, reg, w.regs[reg], word)
				}
				if is {
					shared++
				}
				kept[a.Where[reg]] = w.regs[reg]
				held++
			}
		}
	}
	if held < 40000 || shared < 200 {
		t.Errorf("%d words are held, %d of them are shared", held, shared)
	}
}

// sameByAlloc: the code by an alloc runs as the code does where that run has no
// code; that run.
func sameByAlloc(t *testing.T, l []impl.Instr, a impl.Alloc, x impl.Launch) impl.Ran {
	t.Helper()
	code, ok := impl.ApplyAlloc(l, a)
	if !ok || !impl.GoodCode(code) || len(code) != len(l) {
		t.Errorf("%s by %v is %s", toldCode(l), a, toldCode(code))
	}
	want := impl.RunCode(l, x)
	if want.Code != 0 {
		return want
	}
	if got := impl.RunCode(code, x); !sameRan(got, want) {
		t.Errorf("%s with %v leaves %v, by %v %v", toldCode(l), x, want, a, got)
	}
	return want
}

// Promise 13: of drawn good code, whatever the launch and however few the places.
func TestPromise13CodeByItsAlloc(t *testing.T) {
	t.Parallel()
	c := newChance(239)
	codes, changed, fewer, slots := [4]int{}, 0, 0, 0
	for n := range 1200 {
		l := c.codeForRegisters(n)
		for range 2 {
			a, _ := impl.AllocOf(l, c.somePlaces())
			x := c.codeLaunch()
			ran := sameByAlloc(t, l, a, x)
			codes[ran.Code]++
			if ran.Code != 0 {
				continue
			}
			if !sameValues(ran.Buffers, x.Buffers) {
				changed++
			}
			if by, _ := impl.ApplyAlloc(l, a); impl.RegsOf(by) < impl.RegsOf(l) {
				fewer++
			}
			if a.Slots > 0 {
				slots++
			}
		}
	}
	if codes[0] < 1500 || codes[impl.RunBad] > 0 || changed < 400 || fewer < 600 || slots < 400 {
		t.Errorf("codes %v, %d change a buffer, %d have fewer registers, %d slots", codes, changed, fewer, slots)
	}
}

// Promise 13: of drawn kernels' code, as it is and improved; it does what the
// kernel does.
func TestPromise13OfKernels(t *testing.T) {
	t.Parallel()
	c := newChance(240)
	tried, changed, before, behind := 0, 0, 0, 0
	for n := range 500 {
		l := c.someKernel(n)
		x := c.launchFor(l)
		if n%5 == 1 {
			x = c.calmLaunch(l, n%2 == 0)
		}
		want := impl.RunKernel(l, x)
		code, _ := impl.CompileKernel(l)
		improved, _ := impl.Improve(code)
		for _, code := range [][]impl.Instr{code, improved} {
			a, _ := impl.AllocOf(code, c.somePlaces())
			if sameByAlloc(t, code, a, x).Code != 0 || want.Code != 0 {
				continue
			}
			by, _ := impl.ApplyAlloc(code, a)
			if got := impl.RunCode(by, x); !sameValues(got.Buffers, want.Buffers) {
				t.Errorf("%v with %v leaves %v, by %v %v", l, x, want.Buffers, a, got.Buffers)
			}
			tried++
			if !sameValues(want.Buffers, x.Buffers) {
				changed++
			}
			before += impl.RegsOf(code)
			behind += impl.RegsOf(by)
		}
	}
	if tried < 600 || changed < 300 || behind*3 > before {
		t.Errorf("%d are tried, %d change a buffer, of %d registers %d are left", tried, changed, before, behind)
	}
}

// otherAlloc: one that holds, in which places and slots are any that are free.
func (c chance) otherAlloc(s *study) impl.Alloc {
	where := make([]int, s.regs)
	for reg := range where {
		for try := 0; ; try++ {
			where[reg] = [...]int{c.Intn(2 + try), -1 - c.Intn(2+try), -1 - try}[c.Intn(3)]
			taken := func(other int) bool { return where[other] == where[reg] && s.clashes(reg, other) }
			if where[reg] < 64 && !slices.ContainsFunc(upTo(reg), taken) {
				break
			}
		}
	}
	return counted(where...)
}

// Promise 13: by any alloc that holds.
func TestPromise13CodeByAnyAlloc(t *testing.T) {
	t.Parallel()
	c := newChance(241)
	tried := 0
	for n := range 1200 {
		s := studied(c.codeForRegisters(n))
		a := c.otherAlloc(s)
		if !heldAlloc(t, s, a, 64) {
			t.Errorf("%s: %v does not hold", toldCode(s.l), a)
		}
		if _, ok := impl.ApplyAlloc(s.l, a); ok && sameByAlloc(t, s.l, a, c.codeLaunch()).Code == 0 {
			tried++
		}
	}
	if tried < 700 {
		t.Errorf("%d are tried", tried)
	}
}

// Promise 13: each statement, with one place and with two.
func TestPromise13EveryStatement(t *testing.T) {
	t.Parallel()
	for _, text := range []string{"7", "- 7", "n + 2 * 3", "a [ 1 ] + a [ 2 ]", "tid ( ) - local ( )", "min ( 3 , n ) * max ( n , 4 )", "int ( - f )", "( n - ( 3 - ( n - ( 5 - n ) ) ) ) * ( n + 1 )"} {
		for _, form := range []string{"a [ 0 ] = # ;", "b [ 1 ] = # ;", "let x = # ; let y = x ; x = y * 2 ; a [ 2 ] = x + y ;", "for i in # .. ( # ) + 2 { a [ i ] = i ; }", "for i in 0 .. ( # ) % 5 { for j in i .. 3 { a [ tid ( ) ] = a [ tid ( ) ] * 3 + i - j ; } }", "if ( # ) < 2 { a [ 1 ] = 1 ; } else { a [ 2 ] = # ; }", "let x = # ; if x == 7 { x = 8 ; } else { x = x + 5 ; } a [ 1 ] = x ;", "b [ 2 ] = fma ( # , 1.5 , f ) ;", "let x = # ; a [ tid ( ) ] = # ; barrier ; a [ 3 - tid ( ) ] = a [ tid ( ) ] + x ;"} {
			l := kernelWith(t, given(strings.ReplaceAll(form, "#", text)))
			code, ok := impl.CompileKernel(l)
			if !ok {
				t.Fatalf("%q has no code", form)
			}
			for places := 1; places <= 3; places++ {
				a, _ := impl.AllocOf(code, places)
				for _, x := range []impl.Launch{around(2, 2, 1, 2, 3, 4), around(1, 4, 0, -1, 9, 2), around(1, 1)} {
					if ran := sameByAlloc(t, code, a, x); ran.Code != 0 {
						t.Errorf("%q for %q has the code %d", text, form, ran.Code)
					}
				}
			}
		}
	}
}

// noRegisters: the zero answer and false by all of chapter 13.
func noRegisters(t *testing.T, l []impl.Instr, allocs ...impl.Alloc) {
	t.Helper()
	if live, ok := impl.LiveOf(l); ok || len(live) > 0 {
		t.Errorf("LiveOf of %d that are no good code: %v", len(l), live)
	}
	if clashes, ok := impl.ClashesOf(l); ok || len(clashes) > 0 {
		t.Errorf("ClashesOf of %d that are no good code: %v", len(l), clashes)
	}
	if got := impl.PressureOf(l); got != 0 {
		t.Errorf("PressureOf of %d that are no good code: %d", len(l), got)
	}
	for _, places := range []int{1, 2, 64, 0, 65} {
		if a, ok := impl.AllocOf(l, places); ok || !sameAlloc(a, impl.Alloc{}) {
			t.Errorf("AllocOf of %d that are no good code: %v", len(l), a)
		}
		for _, a := range append(allocs, impl.Alloc{}, counted(0), counted(-1), counted(0, 1, 2)) {
			if code, ok := impl.ApplyAlloc(l, a); impl.AllocHolds(l, a, places) || ok || len(code) > 0 {
				t.Errorf("of %d that are no good code %v holds", len(l), a)
			}
		}
	}
}

// Promise 25: instructions with fields of any kind.
func TestPromise25AnyInstructionsForRegisters(t *testing.T) {
	t.Parallel()
	good := 0
	newChance(242).anyInstrs(func(l []impl.Instr, _ impl.Launch) {
		if wantCode(l) {
			good++
			heldRegisters(t, l, 1, 2)
		} else {
			noRegisters(t, l)
		}
	})
	if good < 50 {
		t.Errorf("%d are good", good)
	}
}

// Promise 25: no code at all, too much of it, and code that ends as it must not.
func TestPromise25NoCodeForRegisters(t *testing.T) {
	t.Parallel()
	for _, l := range [][]impl.Instr{nil, {}, {{}}, slices.Repeat([]impl.Instr{{}}, 600), slices.Repeat(instrs("end"), 601), slices.Repeat(instrs("end"), 1<<20), slices.Repeat(instrs("jump 0"), 601)} {
		noRegisters(t, l)
	}
	for _, line := range strings.Split(everyOp, "|") {
		if l := instrs("barrier | " + line); !endsWell(l) {
			noRegisters(t, l)
			noRegisters(t, l[1:])
		}
	}
	heldRegisters(t, slices.Repeat(instrs("end"), 600), 1, 64)
	heldRegisters(t, slices.Repeat(instrs("jump 0"), 600), 1, 64)
}

// Promise 25: good code with one thing changed, and the alloc of what it was.
func TestPromise25RegistersWithOneChange(t *testing.T) {
	t.Parallel()
	c := newChance(243)
	good := 0
	for n := range 1500 {
		l := c.someCode(n)
		a, _ := impl.AllocOf(l, 3)
		at := c.Intn(len(l))
		l[at] = c.changedInstr(l[at], len(l))
		if wantCode(l) {
			good++
			s, _ := heldRegisters(t, l, c.somePlaces())
			heldAlloc(t, s, a, 3)
		} else {
			noRegisters(t, l, a)
		}
	}
	if good < 100 || good > 1200 {
		t.Errorf("%d of 1500 are good", good)
	}
}

// Promise 25: allocs and places of any numbers.
func TestPromise25AnyAllocs(t *testing.T) {
	t.Parallel()
	c := newChance(244)
	numbers := append([]int{math.MinInt, math.MinInt + 1, math.MaxInt, math.MaxInt - 1, -401, -400, -399, -2, -1, 0, 1, 2, 63, 64, 65, 399, 400, 1 << 32, -1 << 32}, wrongInts...)
	hold := 0
	for n := range 4000 {
		s := studied(c.someCode(n % 60))
		some := func() int { return [...]int{numbers[c.Intn(len(numbers))], c.Intn(4) - 1, -1, 0}[c.Intn(4)] }
		where := make([]int, [...]int{s.regs, s.regs, s.regs, c.Intn(10)}[c.Intn(4)])
		for at := range where {
			where[at] = some()
		}
		a := counted(where...)
		switch c.Intn(4) {
		case 0:
			a.Kept = some()
		case 1:
			a.Slots = some()
		}
		if heldAlloc(t, s, a, [...]int{64, 1, some()}[c.Intn(3)]) {
			hold++
		}
		if places := some(); places < 1 || places > 64 {
			if a, ok := impl.AllocOf(s.l, places); ok || !sameAlloc(a, impl.Alloc{}) {
				t.Errorf("for %d places: %v", places, a)
			}
		}
	}
	if hold < 100 || hold > 2000 {
		t.Errorf("%d hold", hold)
	}
}

func clonedRows(rows [][]int) [][]int {
	var all [][]int
	for _, row := range rows {
		all = append(all, slices.Clone(row))
	}
	return all
}

// rowsApart: each list of an answer has its own memory, also behind its length, and
// shares none with another answer.
func rowsApart(t *testing.T, what string, l []impl.Instr, call func([]impl.Instr) ([][]int, bool)) {
	t.Helper()
	given := behind(l)
	first, _ := call(given)
	second, _ := call(given)
	kept := clonedRows(first)
	for at := range first {
		for n := range first[at][:cap(first[at])] {
			first[at][:cap(first[at])][n] = -7
		}
		first[at] = append(append(first[at], -8), -9)
		if !sameRows(first[at+1:], kept[at+1:]) || !slices.Equal(first[at][len(kept[at]):], []int{-8, -9}) {
			t.Errorf("%s of %s: list %d shares its memory with another one", what, toldCode(l), at)
		}
	}
	for at := range first {
		if want := append(slices.Repeat([]int{-7}, len(kept[at])), -8, -9); !slices.Equal(first[at], want) {
			t.Errorf("%s of %s: list %d is %v", what, toldCode(l), at, first[at])
		}
	}
	clear(first[:cap(first)])
	if !sameRows(second, kept) || !unchanged(given, l) {
		t.Errorf("%s of %s shares its memory", what, toldCode(l))
	}
	clear(given[:cap(given)])
	if !sameRows(second, kept) {
		t.Errorf("%s of %s answers with what it was given", what, toldCode(l))
	}
}

// Promise 25: nothing is written into an argument, and no answer shares its memory,
// that of another one, or that of another list of its own.
func TestPromise25RegistersKeepWhatIsGiven(t *testing.T) {
	t.Parallel()
	c := newChance(245)
	for n := range 500 {
		l := c.codeForRegisters(n)
		places := c.somePlaces()
		a, _ := impl.AllocOf(l, places)
		rowsApart(t, "LiveOf", l, impl.LiveOf)
		rowsApart(t, "ClashesOf", l, impl.ClashesOf)
		apartFrom(t, "PressureOf", l, func(l []impl.Instr) []int { return []int{impl.PressureOf(l)} })
		apartFrom(t, "AllocOf", l, func(l []impl.Instr) []int { a, _ := impl.AllocOf(l, places); return a.Where })
		apartFrom(t, "ApplyAlloc", l, func(l []impl.Instr) []impl.Instr { code, _ := impl.ApplyAlloc(l, a); return code })
		apartFrom(t, "AllocHolds", l, func(l []impl.Instr) []bool { return []bool{impl.AllocHolds(l, a, places)} })
		if n%3 == 0 {
			a = c.changedAlloc(a)
		}
		apartFrom(t, "ApplyAlloc", a.Where, func(where []int) []impl.Instr {
			code, _ := impl.ApplyAlloc(l, impl.Alloc{Where: where, Kept: a.Kept, Slots: a.Slots})
			return code
		})
		apartFrom(t, "AllocHolds", a.Where, func(where []int) []bool {
			return []bool{impl.AllocHolds(l, impl.Alloc{Where: where, Kept: a.Kept, Slots: a.Slots}, places)}
		})
	}
}

// Promise 25: what lies behind the length of code, and of an alloc, is not looked at.
func TestPromise25BehindCodeForRegisters(t *testing.T) {
	t.Parallel()
	c := newChance(246)
	for n := range 300 {
		l := c.codeForRegisters(n)
		more := append(slices.Clone(l), c.anyInstr(), impl.Instr{Op: impl.IStore, A: 399, B: 398}, impl.Instr{Op: impl.IEnd})[:len(l)]
		s, a := heldRegisters(t, more, c.somePlaces())
		noRegisters(t, more[:0])
		a.Where = append(slices.Clone(a.Where), 0, 1, -1, -400)[:len(a.Where)]
		if !heldAlloc(t, s, a, 64) {
			t.Errorf("%v does not hold", a)
		}
		if regs := len(a.Where); regs > 0 {
			a.Where = a.Where[:regs-1]
			if heldAlloc(t, s, a, 64) {
				t.Errorf("%v holds for %d registers", a, regs)
			}
		}
	}
}

// Promise 25: answers hang on what is given alone, whatever was asked between.
func TestPromise25RegistersAgain(t *testing.T) {
	t.Parallel()
	c := newChance(247)
	for n := range 150 {
		l, places := c.codeForRegisters(n), c.somePlaces()
		live, _ := impl.LiveOf(l)
		clashes, _ := impl.ClashesOf(l)
		a, _ := impl.AllocOf(l, places)
		code, _ := impl.ApplyAlloc(l, a)
		pressure := impl.PressureOf(l)
		for range 2 {
			heldRegisters(t, c.codeForRegisters(c.Intn(80)), c.somePlaces())
			noRegisters(t, nil, a)
			liveAgain, _ := impl.LiveOf(slices.Clone(l))
			clashesAgain, _ := impl.ClashesOf(slices.Clone(l))
			again, _ := impl.AllocOf(slices.Clone(l), places)
			codeAgain, _ := impl.ApplyAlloc(slices.Clone(l), again)
			if !sameRows(liveAgain, live) || !sameRows(clashesAgain, clashes) || !sameAlloc(again, a) || !slices.Equal(codeAgain, code) || impl.PressureOf(l) != pressure || !impl.AllocHolds(l, a, places) {
				t.Errorf("%s is told otherwise again", toldCode(l))
			}
		}
	}
}
