package tests

import (
	"math"
	"slices"
	"testing"

	"loop.example/g00053/impl"
)

// Registers, held against the other way.

func sameRows(a, b [][]int) bool {
	return slices.EqualFunc(a, b, func(x, y []int) bool { return slices.Equal(x, y) })
}

func sameAlloc(a, b impl.Alloc) bool {
	return slices.Equal(a.Where, b.Where) && a.Kept == b.Kept && a.Slots == b.Slots
}

// heldLives: what lives and what clashes in good code.
func heldLives(t *testing.T, l []impl.Instr) *study {
	t.Helper()
	s := studied(l)
	if live, ok := impl.LiveOf(l); !ok || !sameRows(live, s.live) {
		t.Errorf("LiveOf(%s) = %v, %v, want %v", toldCode(l), live, ok, s.live)
	}
	if clashes, ok := impl.ClashesOf(l); !ok || !sameRows(clashes, s.allClashes()) {
		t.Errorf("ClashesOf(%s) = %v, %v, want %v", toldCode(l), clashes, ok, s.allClashes())
	}
	if got := impl.PressureOf(l); got != s.pressure() {
		t.Errorf("PressureOf(%s) = %d, want %d", toldCode(l), got, s.pressure())
	}
	return s
}

// heldAllocOf: the alloc for some places, which holds where there is one.
func heldAllocOf(t *testing.T, s *study, places int) impl.Alloc {
	t.Helper()
	want, good := s.alloc(places)
	a, ok := impl.AllocOf(s.l, places)
	if ok != good || !sameAlloc(a, want) {
		t.Errorf("AllocOf(%s, %d) = %v, %v, want %v, %v", toldCode(s.l), places, a, ok, want, good)
	}
	if impl.AllocHolds(s.l, a, places) != ok {
		t.Errorf("%s: %v for %d: %v", toldCode(s.l), a, places, !ok)
	}
	return a
}

// heldAlloc: whether an alloc holds, and the code by it.
func heldAlloc(t *testing.T, s *study, a impl.Alloc, places int) bool {
	t.Helper()
	holds := impl.AllocHolds(s.l, a, places)
	if holds != s.holds(a, places) {
		t.Errorf("AllocHolds(%s, %v, %d) = %v", toldCode(s.l), a, places, holds)
	}
	want, good := s.applied(a)
	code, ok := impl.ApplyAlloc(s.l, a)
	if ok != good || !slices.Equal(code, want) {
		t.Errorf("ApplyAlloc(%s, %v) = %s, %v, want %s, %v", toldCode(s.l), a, toldCode(code), ok, toldCode(want), good)
	}
	if ok != impl.GoodCode(code) {
		t.Errorf("ApplyAlloc(%s, %v) = %v", toldCode(s.l), a, code)
	}
	return holds
}

// heldRegisters: all that chapter 13 tells of good code, for some places.
func heldRegisters(t *testing.T, l []impl.Instr, places ...int) (*study, impl.Alloc) {
	t.Helper()
	s := heldLives(t, l)
	var a impl.Alloc
	for _, n := range places {
		a = heldAllocOf(t, s, n)
		for _, other := range []int{n - 1, n, n + 1, 1, 64} {
			heldAlloc(t, s, a, other)
		}
	}
	return s, a
}

// crowded: code of many registers that live for long. Most of them are written
// once, and each is read again and again.
func (c chance) crowded(count int) []impl.Instr {
	regs := 2 + c.Intn(min(count, 399))
	most := 1 + c.Intn(regs)
	var l []impl.Instr
	for at := range count - 1 {
		i := c.instr([...]int{1, 2, 2, 3, 3, 3, 4, 5, 5, 6, 7, 7, 12, 13}[c.Intn(14)], count, most)
		if writesD(i) && c.Intn(8) > 0 {
			i.D = at % regs
		}
		if c.Intn(12) == 0 {
			i = impl.Instr{Op: impl.IZero, A: c.Intn(regs), B: c.Intn(count), C: c.Intn(count)}
		}
		switch i.Op {
		case impl.IIn:
			i.Word = uint32(c.Intn(6))
		case impl.ILoad, impl.IStore:
			i.Word = uint32(c.Intn(2))
		case impl.IZero:
			i.B = at + 1 + i.B%(count-at-1) // mostly it ends
		}
		l = append(l, i)
	}
	return append(l, c.instr([...]int{impl.IEnd, impl.IEnd, impl.IJump}[c.Intn(3)], count, regs))
}

// codeForRegisters: good code of one of several sorts.
func (c chance) codeForRegisters(n int) []impl.Instr {
	switch n % 8 {
	case 0, 1, 2:
		return c.crowded(1 + n%60)
	case 3:
		l, _ := impl.CompileKernel(c.someKernel(n / 8 % 40)) // kernels that are not long
		return l
	}
	return c.someCode(n)
}

// somePlaces: mostly few.
func (c chance) somePlaces() int {
	return [...]int{1, 1, 2, 3, 1 + c.Intn(8), 1 + c.Intn(64), 64}[c.Intn(7)]
}

func TestRegistersByChance(t *testing.T) {
	t.Parallel()
	c := newChance(233)
	slots, bothLive, alone := 0, 0, 0
	for n := range 2400 {
		s, a := heldRegisters(t, c.codeForRegisters(n), c.somePlaces())
		if a.Slots > 0 {
			slots++
		}
		if s.pressure() > 8 {
			bothLive++
		}
		if a.Slots == 0 && a.Kept == s.regs && s.regs > 1 {
			alone++
		}
	}
	if slots < 700 || bothLive < 160 || alone < 480 {
		t.Errorf("of 2400 %d have slots, in %d more than 8 live at once, %d have places alone", slots, bothLive, alone)
	}
}

func TestRegistersOfLongCode(t *testing.T) {
	t.Parallel()
	c := newChance(234)
	for range 2 {
		heldRegisters(t, c.crowded(600), 1, 3, 64)
		heldRegisters(t, c.copying(600), 1, 3, 64)
		heldRegisters(t, c.code(600), 1, 64)
	}
	var long []impl.Instr
	for n := 60; len(long) < 120; n += 5 {
		long, _ = impl.CompileKernel(c.someKernel(n))
	}
	heldRegisters(t, long, 1, 2, 64)
}

// All code of three instructions, of a few of each op, ahead of an end or a jump.
func TestRegistersOfAllSmallCode(t *testing.T) {
	t.Parallel()
	forms := instrs("const 1 0 | move 1 0 | move 0 1 | move 2 1 | move 1 1 | store 0 1 0 | barrier | end | not 0 2 | op 1 1 2 33 | call 2 0 1 0 29 | jump 0 | jump 3 | zero 1 3 2 | zero 2 0 3 | zero 0 1 0")
	for _, first := range forms {
		for _, second := range forms {
			for _, third := range forms {
				for _, last := range instrs("end | jump 0 | jump 2") {
					s := heldLives(t, []impl.Instr{first, second, third, last})
					heldAlloc(t, s, heldAllocOf(t, s, 1), 1)
					heldAllocOf(t, s, 2)
				}
			}
		}
	}
}

// changedAlloc: an alloc with one thing changed.
func (c chance) changedAlloc(a impl.Alloc) impl.Alloc {
	a.Where = slices.Clone(a.Where)
	some := func(near int) int {
		return [...]int{near - 1, near + 1, c.Intn(5) - 2, c.Intn(70), -1 - near, wrongInts[c.Intn(len(wrongInts))]}[c.Intn(6)]
	}
	switch c.Intn(8) {
	case 0:
		a.Kept = some(a.Kept)
	case 1:
		a.Slots = some(a.Slots)
	case 2:
		a.Where = append(a.Where, c.Intn(3)-1)
	case 3:
		a.Where = a.Where[:max(len(a.Where)-1, 0)]
	default:
		if len(a.Where) > 0 {
			at := c.Intn(len(a.Where))
			a.Where[at] = some(a.Where[at])
		}
	}
	return a
}

// counted: an alloc whose counts are those of its places and slots.
func counted(where ...int) impl.Alloc {
	a := impl.Alloc{Where: where}
	for _, w := range where {
		if w >= 0 {
			a.Kept++
		} else {
			a.Slots = max(a.Slots, -w)
		}
	}
	return a
}

func TestAllocsWithOneChange(t *testing.T) {
	t.Parallel()
	c := newChance(235)
	hold, not := 0, 0
	for n := range 700 {
		s := studied(c.codeForRegisters(n))
		places := c.somePlaces()
		a, _ := impl.AllocOf(s.l, places)
		for range 6 {
			changed := c.changedAlloc(a)
			if c.Intn(3) == 0 { // another place or slot, with the counts of that
				changed = counted(changed.Where...)
			}
			if heldAlloc(t, s, changed, [...]int{places, places, 64, c.Intn(66)}[c.Intn(4)]) {
				hold++
			} else {
				not++
			}
		}
	}
	if hold < 300 || not < 1500 {
		t.Errorf("%d hold, %d do not", hold, not)
	}
}

// Places and slots of which many are free, in any order.
func TestAllocsByChance(t *testing.T) {
	t.Parallel()
	c := newChance(236)
	hold, tooHigh := 0, 0
	for n := range 1500 {
		s := studied(c.codeForRegisters(n))
		where := make([]int, s.regs)
		wide := [...]int{1, 2, 64, 64, 200, 500}[c.Intn(6)]
		for reg := range where {
			switch where[reg] = -1 - c.Intn(wide); c.Intn(3) {
			case 0:
				where[reg] = c.Intn(min(wide, 65))
			case 1:
				where[reg] = reg
			}
		}
		a := counted(where...)
		if heldAlloc(t, s, a, 64) {
			hold++
			if _, ok := impl.ApplyAlloc(s.l, a); !ok {
				tooHigh++
			}
		}
	}
	if hold < 200 || hold > 1300 || tooHigh < 3 {
		t.Errorf("of 1500 %d hold, %d of them with registers that are too high", hold, tooHigh)
	}
}

func TestOccupancyOfAll(t *testing.T) {
	t.Parallel()
	for places := -2; places <= 66; places++ {
		for slots := -2; slots <= 402; slots++ {
			for size := -1; size <= 10; size++ {
				if got := impl.OccupancyOf(places, slots, size); got != wantOccupancy(places, slots, size) {
					t.Errorf("OccupancyOf(%d, %d, %d) = %d", places, slots, size, got)
				}
			}
		}
	}
	for _, wrong := range append([]int{math.MinInt, math.MaxInt, math.MinInt / 8, 1 << 61, 1 << 62, 1 << 32, -1 << 32}, wrongInts...) {
		for _, good := range []int{0, 1, 8} {
			for _, args := range [][3]int{{wrong, good, 1}, {good, wrong, 1}, {good, good, wrong}, {wrong, wrong, wrong}} {
				if got := impl.OccupancyOf(args[0], args[1], args[2]); got != wantOccupancy(args[0], args[1], args[2]) {
					t.Errorf("OccupancyOf%v = %d", args, got)
				}
			}
		}
	}
}
