package tests

import (
	"math"
	"slices"
	"strings"
	"testing"

	"loop.example/g00053/impl"
)

// sameBySchedule: scheduled code runs as the code does, whatever comes of that run;
// that run.
func sameBySchedule(t *testing.T, l []impl.Instr, x impl.Launch) impl.Ran {
	t.Helper()
	code, ok := impl.ScheduleCode(l)
	if !ok || !impl.GoodCode(code) || len(code) != len(l) {
		t.Errorf("%s is scheduled as %s", toldCode(l), toldCode(code))
	}
	want := impl.RunCode(l, x)
	if got := impl.RunCode(code, x); !sameRan(got, want) {
		t.Errorf("%s with %v leaves %v, scheduled %v", toldCode(l), x, want, got)
	}
	return want
}

// Promise 14: of drawn good code, whatever the launch.
func TestPromise14SchedulesLeaveTheSame(t *testing.T) {
	t.Parallel()
	c := newChance(255)
	codes, moved, changed := [4]int{}, 0, 0
	for n := range 1600 {
		l, x := c.codeForSchedules(n), c.codeLaunch()
		ran := sameBySchedule(t, l, x)
		codes[ran.Code]++
		if ran.Code != 0 {
			continue
		}
		if code, _ := impl.ScheduleCode(l); !slices.Equal(code, l) {
			moved++
		}
		if !sameValues(ran.Buffers, x.Buffers) {
			changed++
		}
	}
	if codes[0] < 1100 || codes[impl.RunBad] > 0 || moved < 600 || changed < 300 {
		t.Errorf("codes %v, %d are moved, %d change a buffer", codes, moved, changed)
	}
}

// telling: a row of few registers and buffers as code that begins with words in all
// registers and tells them all in the end.
func (c chance) telling(row []impl.Instr) []impl.Instr {
	var l []impl.Instr
	for reg := range 8 {
		l = append(l, impl.Instr{Op: impl.IConst, D: reg, Word: [...]uint32{uint32(c.Intn(6)), uint32(c.Intn(6)), c.word()}[c.Intn(3)]})
	}
	l = append(l, row...)
	for reg := range 8 {
		l = append(l, impl.Instr{Op: impl.IConst, D: 9, Word: uint32(reg)}, impl.Instr{Op: impl.IStore, A: 9, B: reg, Word: 3})
	}
	return append(l, impl.Instr{Op: impl.IEnd})
}

// smallRow: of 8 registers and 3 buffers.
func (c chance) smallRow(count int) []impl.Instr {
	l := c.mixedRow(count)
	for at, i := range l {
		for _, field := range []string{"D", "A", "B", "C"} {
			l[at] = withField(l[at], field, fieldOf(i, field)%8)
		}
		switch i.Op {
		case impl.ILoad, impl.IStore:
			l[at].Word %= 3
		case impl.IIn:
			l[at].Word %= 6
		}
	}
	return l
}

// Promise 14: a row leaves the same in all registers and buffers by every order that
// is taken, its own and any other one.
func TestPromise14EveryOrderThatIsTaken(t *testing.T) {
	t.Parallel()
	c := newChance(256)
	changed := 0
	for n := range 1200 {
		row := c.smallRow(1 + n%20)
		seed := int64(c.Intn(1 << 30))
		x := impl.Launch{Groups: 1, Size: 1, Words: c.smallWords(2), Buffers: [][]uint32{c.smallWords(6), c.smallWords(4), c.smallWords(2), make([]uint32, 8)}}
		want := impl.RunCode(newChance(seed).telling(row), x)
		w := workedOf(row)
		order, _ := impl.OrderOf(row)
		for _, order := range [][]int{order, c.freeOrder(w), c.freeOrder(w), upTo(len(row))} {
			moved, ok := impl.Reorder(row, order)
			if got := impl.RunCode(newChance(seed).telling(moved), x); !ok || !sameRan(got, want) {
				t.Errorf("%v leaves %v, by %v %v", row, want, order, got)
			}
		}
		if want.Code == 0 && !sameValues(want.Buffers[:3], x.Buffers[:3]) {
			changed++
		}
	}
	if changed < 200 {
		t.Errorf("%d change a buffer", changed)
	}
}

// What each need is for: two that need each other leave something else the other way
// round, at some words.
func TestPromise14WhatNeedsAreFor(t *testing.T) {
	t.Parallel()
	for _, two := range []string{"const 1 5 | move 2 1", "move 2 1 | const 1 5", "const 1 5 | const 1 6", "load 1 0 0 | store 0 2 0", "store 0 2 0 | load 1 0 0", "store 0 2 0 | store 0 3 0", "not 1 2 | neg 2 1", "op 1 1 2 33 | op 2 1 2 33"} {
		row := instrs(two)
		unlike := false
		for seed := range int64(20) {
			x := impl.Launch{Groups: 1, Size: 1, Buffers: [][]uint32{newChance(seed).smallWords(6), nil, nil, make([]uint32, 8)}}
			first := impl.RunCode(newChance(seed).telling(row), x)
			other := impl.RunCode(newChance(seed).telling([]impl.Instr{row[1], row[0]}), x)
			unlike = unlike || !sameRan(first, other)
		}
		if _, ok := impl.Reorder(row, []int{1, 0}); ok || !unlike {
			t.Errorf("%s: the other way round is taken: %v, unlike: %v", two, ok, unlike)
		}
	}
}

// Promise 14: of drawn rows the order is one that is taken, and waits no more.
func TestPromise14WaitsNoMore(t *testing.T) {
	t.Parallel()
	c := newChance(257)
	before, behind := 0, 0
	for n := range 4000 {
		l := c.someRow(n)
		order, ok := impl.OrderOf(l)
		moved, taken := impl.Reorder(l, order)
		own, _ := impl.CyclesOf(l)
		by, is := impl.CyclesOf(moved)
		if !ok || !taken || !is || by > own || by < len(l) {
			t.Errorf("%v takes %d cycles, by %v %d", l, own, order, by)
		}
		before += own
		behind += by
	}
	if behind*10 > before*9 {
		t.Errorf("of %d cycles %d are left", before, behind)
	}
}

// cyclesOfAll: those of all stretches of code together.
func cyclesOfAll(t *testing.T, l []impl.Instr) int {
	t.Helper()
	all := 0
	stretches, _ := impl.BlocksOf(l)
	for _, s := range stretches {
		cycles, ok := impl.CyclesOf(l[s[0] : s[1]+1])
		if !ok {
			t.Errorf("%v of %s is no row", s, toldCode(l))
		}
		all += cycles
	}
	return all
}

// Promise 14: stretch by stretch code waits no more, however often it is scheduled;
// its stretches stay where they are.
func TestPromise14CodeWaitsNoMore(t *testing.T) {
	t.Parallel()
	c := newChance(258)
	before, behind := 0, 0
	for n := range 1500 {
		l := c.codeForSchedules(n)
		stretches, _ := impl.BlocksOf(l)
		was := cyclesOfAll(t, l)
		before += was
		for range 3 {
			code, _ := impl.ScheduleCode(l)
			if again, _ := impl.BlocksOf(code); !sameRows(again, stretches) {
				t.Errorf("%s has the stretches %v, scheduled %v", toldCode(l), stretches, again)
			}
			is := cyclesOfAll(t, code)
			if is > was {
				t.Errorf("%s takes %d cycles, scheduled %d", toldCode(l), was, is)
			}
			l, was = code, is
		}
		behind += was
	}
	if behind*20 > before*19 {
		t.Errorf("of %d cycles %d are left", before, behind)
	}
}

// Promise 14: of drawn kernels' code, as it is, improved, and with few registers; it
// does what the kernel does, also by warps where there are no races.
func TestPromise14OfKernels(t *testing.T) {
	t.Parallel()
	c := newChance(259)
	tried, changed, warps := 0, 0, 0
	for n := range 500 {
		l := c.someKernel(n)
		x := c.launchFor(l)
		if n%5 == 1 {
			x = c.calmLaunch(l, n%2 == 0)
		}
		want := impl.RunKernel(l, x)
		races, calm := impl.RacesOf(l, x)
		code, _ := impl.CompileKernel(l)
		improved, _ := impl.Improve(code)
		a, _ := impl.AllocOf(improved, c.somePlaces())
		few, _ := impl.ApplyAlloc(improved, a)
		for _, code := range [][]impl.Instr{code, improved, few} {
			if sameBySchedule(t, code, x).Code != 0 || want.Code != 0 {
				continue
			}
			tried++
			by, _ := impl.ScheduleCode(code)
			if got := impl.RunCode(by, x); !sameValues(got.Buffers, want.Buffers) {
				t.Errorf("%v with %v leaves %v, scheduled %v", l, x, want.Buffers, got.Buffers)
			}
			if !sameValues(want.Buffers, x.Buffers) {
				changed++
			}
			if warped := impl.RunWarps(by, x); calm && len(races) == 0 && warped.Code == 0 {
				warps++
				if !sameValues(warped.Buffers, want.Buffers) {
					t.Errorf("%v with %v leaves %v, scheduled by warps %v", l, x, want.Buffers, warped.Buffers)
				}
			}
		}
	}
	if tried < 900 || changed < 450 || warps < 400 {
		t.Errorf("%d are tried, %d change a buffer, %d go by warps", tried, changed, warps)
	}
}

// Promise 14: each statement.
func TestPromise14EveryStatement(t *testing.T) {
	t.Parallel()
	moved := 0
	for _, text := range []string{"7", "- 7", "n + 2 * 3", "a [ 1 ] + a [ 2 ]", "tid ( ) - local ( )", "min ( 3 , n ) * max ( n , 4 )", "int ( - f )", "a [ a [ 0 ] ] % 3 - a [ n ] / 2"} {
		for _, form := range []string{"a [ 0 ] = # ;", "b [ 1 ] = # ;", "let x = # ; let y = x ; x = y * 2 ; a [ 2 ] = x + y ;", "a [ 1 ] = # ; a [ 2 ] = # ; a [ 1 ] = a [ 2 ] - 1 ; b [ 0 ] = a [ 1 ] ;", "for i in # .. ( # ) + 2 { a [ i ] = i ; }", "for i in 0 .. ( # ) % 5 { for j in i .. 3 { a [ tid ( ) ] = a [ tid ( ) ] * 3 + i - j ; } }", "if ( # ) < 2 { a [ 1 ] = 1 ; } else { a [ 2 ] = # ; }", "let x = # ; if x == 7 { x = 8 ; } else { x = x + 5 ; } a [ 1 ] = x ;", "b [ 2 ] = fma ( # , 1.5 , f ) ; b [ 1 ] = b [ 2 ] * f ;", "let x = # ; a [ tid ( ) ] = # ; barrier ; a [ 3 - tid ( ) ] = a [ tid ( ) ] + x ;"} {
			l := kernelWith(t, given(strings.ReplaceAll(form, "#", text)))
			code, ok := impl.CompileKernel(l)
			if !ok {
				t.Fatalf("%q has no code", form)
			}
			if by, _ := impl.ScheduleCode(code); !slices.Equal(by, code) {
				moved++
			}
			for _, x := range []impl.Launch{around(2, 2, 1, 2, 3, 4), around(1, 4, 0, -1, 9, 2), around(1, 1)} {
				if ran := sameBySchedule(t, code, x); ran.Code != 0 {
					t.Errorf("%q for %q has the code %d", text, form, ran.Code)
				}
			}
		}
	}
	if moved < 50 {
		t.Errorf("%d are moved", moved)
	}
}

// noSchedule: the zero answer and false by what is told of code.
func noSchedule(t *testing.T, l []impl.Instr) {
	t.Helper()
	if got, ok := impl.BlocksOf(l); ok || len(got) > 0 {
		t.Errorf("BlocksOf of %d that are no good code: %v", len(l), got)
	}
	if got, ok := impl.ScheduleCode(l); ok || len(got) > 0 {
		t.Errorf("ScheduleCode of %d that are no good code: %v", len(l), got)
	}
}

// heldAnything: all of chapter 14 of any instructions; whether they are a row, and
// whether they are good code.
func heldAnything(t *testing.T, l []impl.Instr) (bool, bool) {
	t.Helper()
	for _, i := range l {
		if got := impl.LatencyOf(i); got != wantLatency(i) {
			t.Errorf("LatencyOf(%v) = %d, want %d", i, got, wantLatency(i))
		}
	}
	row, code := wantRow(l), wantCode(l)
	if row {
		heldRow(t, l)
	} else {
		noRow(t, l)
	}
	if code {
		heldSchedule(t, l)
	} else {
		noSchedule(t, l)
	}
	return row, code
}

// Promise 25: instructions with fields of any kind.
func TestPromise25AnyInstructionsForSchedules(t *testing.T) {
	t.Parallel()
	rows, codes := 0, 0
	newChance(260).anyInstrs(func(l []impl.Instr, _ impl.Launch) {
		for _, l := range [][]impl.Instr{l, l[:len(l)-1]} {
			row, code := heldAnything(t, l)
			if row {
				rows++
			}
			if code {
				codes++
			}
		}
	})
	if rows < 50 || codes < 50 {
		t.Errorf("%d are rows, %d are good code", rows, codes)
	}
}

// Promise 25: nothing at all, too much of it, and code that ends as it must not.
func TestPromise25NoCodeForSchedules(t *testing.T) {
	t.Parallel()
	for _, l := range [][]impl.Instr{nil, {}, {{}}, slices.Repeat([]impl.Instr{{}}, 64), slices.Repeat([]impl.Instr{{}}, 600), slices.Repeat(instrs("end"), 601), slices.Repeat(instrs("end"), 1<<20), slices.Repeat(instrs("jump 0"), 601), slices.Repeat(instrs("in 1 0"), 1<<20)} {
		noRow(t, l)
		noSchedule(t, l)
	}
	for _, line := range strings.Split(everyOp, "|") {
		if l := instrs("barrier | " + line); !endsWell(l) {
			noSchedule(t, l)
			noSchedule(t, l[1:])
		}
	}
	heldSchedule(t, slices.Repeat(instrs("end"), 600))
	heldSchedule(t, slices.Repeat(instrs("jump 0"), 600))
	heldSchedule(t, append(slices.Repeat(instrs("load 1 1 0"), 599), impl.Instr{Op: impl.IEnd}))
	noSchedule(t, append(slices.Repeat(instrs("load 1 1 0"), 600), impl.Instr{Op: impl.IEnd}))
}

// Promise 25: rows and good code with one thing changed.
func TestPromise25SchedulesWithOneChange(t *testing.T) {
	t.Parallel()
	c := newChance(261)
	rows, codes := 0, 0
	for n := range 3000 {
		l := c.someRow(n)
		if n%3 == 0 {
			l = c.someCode(n)
		}
		at := c.Intn(len(l))
		l[at] = c.changedInstr(l[at], len(l))
		row, code := heldAnything(t, l)
		if row {
			rows++
		}
		if code {
			codes++
		}
	}
	if rows < 200 || rows > 1800 || codes < 100 || codes > 900 {
		t.Errorf("of 3000 %d are rows, %d are good code", rows, codes)
	}
}

// Promise 25: orders of any numbers.
func TestPromise25AnyOrders(t *testing.T) {
	t.Parallel()
	c := newChance(262)
	numbers := slices.Concat(wrongInts, []int{math.MinInt, math.MaxInt, 63, 64, 65, -64, 1<<32 + 2, -1 << 32})
	taken := 0
	for n := range 4000 {
		w := workedOf(c.mixedRow(1 + n%5))
		order := make([]int, [...]int{len(w.l), len(w.l), len(w.l), c.Intn(9)}[c.Intn(4)])
		for at := range order {
			order[at] = [...]int{c.Intn(len(w.l)), at, numbers[c.Intn(len(numbers))], at}[c.Intn(4)]
		}
		if heldReorder(t, w, order) {
			taken++
		}
	}
	if taken < 300 || taken > 2500 {
		t.Errorf("%d of 4000 are taken", taken)
	}
}

// Promise 25: nothing is written into an argument, and no answer shares its memory,
// that of another one, or that of another list of its own.
func TestPromise25SchedulesKeepWhatIsGiven(t *testing.T) {
	t.Parallel()
	c := newChance(263)
	for n := range 400 {
		row, code := c.someRow(n), c.codeForSchedules(n)
		order := c.freeOrder(workedOf(row))
		if n%3 == 0 { // nothing is to be moved any more
			order = upTo(len(row))
			code, _ = impl.ScheduleCode(code)
		}
		rowsApart(t, "NeedsOf", row, impl.NeedsOf)
		rowsApart(t, "BlocksOf", code, impl.BlocksOf)
		apartFrom(t, "CyclesOf", row, func(l []impl.Instr) []int { cycles, _ := impl.CyclesOf(l); return []int{cycles} })
		apartFrom(t, "OrderOf", row, func(l []impl.Instr) []int { order, _ := impl.OrderOf(l); return order })
		apartFrom(t, "Reorder", row, func(l []impl.Instr) []impl.Instr { moved, _ := impl.Reorder(l, order); return moved })
		apartFrom(t, "Reorder", order, func(order []int) []impl.Instr { moved, _ := impl.Reorder(row, order); return moved })
		apartFrom(t, "Reorder", c.changedOrder(order), func(order []int) []impl.Instr { moved, _ := impl.Reorder(row, order); return moved })
		apartFrom(t, "ScheduleCode", code, func(l []impl.Instr) []impl.Instr { code, _ := impl.ScheduleCode(l); return code })
		apartFrom(t, "LatencyOf", row, func(l []impl.Instr) []int { return []int{impl.LatencyOf(l[0])} })
	}
}

// Promise 25: what lies behind the length of rows, code and orders is not looked at.
func TestPromise25BehindRows(t *testing.T) {
	t.Parallel()
	c := newChance(264)
	for n := range 300 {
		row, code := c.someRow(n), c.codeForSchedules(n)
		order := c.freeOrder(workedOf(row))
		more := append(slices.Clone(row), c.anyInstr(), impl.Instr{Op: impl.ILoad}, impl.Instr{Op: impl.IEnd})[:len(row)]
		w, _ := heldRow(t, more)
		noRow(t, more[:0])
		longer := append(slices.Clone(order), 0, -1, len(row))[:len(order)]
		if !heldReorder(t, w, longer) || heldReorder(t, w, longer[:len(longer)-1]) {
			t.Errorf("%v by %v", row, order)
		}
		heldSchedule(t, append(slices.Clone(code), c.anyInstr(), impl.Instr{Op: impl.ILoad}, impl.Instr{Op: impl.IEnd})[:len(code)])
	}
}

// Promise 25: answers hang on what is given alone, whatever was asked between.
func TestPromise25SchedulesAgain(t *testing.T) {
	t.Parallel()
	c := newChance(265)
	for n := range 150 {
		row, code := c.someRow(n), c.codeForSchedules(n)
		needs, _ := impl.NeedsOf(row)
		cycles, _ := impl.CyclesOf(row)
		order, _ := impl.OrderOf(row)
		blocks, _ := impl.BlocksOf(code)
		by, _ := impl.ScheduleCode(code)
		for range 2 {
			heldRow(t, c.someRow(c.Intn(250)))
			heldSchedule(t, c.codeForSchedules(c.Intn(80)))
			noRow(t, nil, order)
			needsAgain, _ := impl.NeedsOf(slices.Clone(row))
			cyclesAgain, _ := impl.CyclesOf(slices.Clone(row))
			orderAgain, _ := impl.OrderOf(slices.Clone(row))
			blocksAgain, _ := impl.BlocksOf(slices.Clone(code))
			byAgain, _ := impl.ScheduleCode(slices.Clone(code))
			if !sameRows(needsAgain, needs) || cyclesAgain != cycles || !slices.Equal(orderAgain, order) || !sameRows(blocksAgain, blocks) || !slices.Equal(byAgain, by) {
				t.Errorf("%v or %s is told otherwise again", row, toldCode(code))
			}
		}
	}
}
