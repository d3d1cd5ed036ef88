package tests

import (
	"slices"
	"testing"

	"loop.example/g00053/impl"
)

// Passes, held against the other way.

// heldPasses: all that is told of good code, and by which passes it is changed.
func heldPasses(t *testing.T, l []impl.Instr) map[string]bool {
	t.Helper()
	changed := map[string]bool{}
	reached, ok := impl.ReachedOf(l)
	if !ok || !slices.Equal(reached, wantReached(l)) {
		t.Errorf("ReachedOf(%v) = %v, %v, want %v", l, reached, ok, wantReached(l))
	}
	for _, p := range allPasses() {
		got, ok := p.of(l)
		if want := p.want(l); !ok || !slices.Equal(got, want) {
			t.Errorf("%s of %v = %v, %v, want %v", p.name, l, got, ok, want)
		}
		if !wantCode(got) || len(got) > len(l) {
			t.Errorf("%s of %v = %v, which is not good, or longer", p.name, l, got)
		}
		changed[p.name] = !slices.Equal(got, l)
	}
	return changed
}

// copying: code with few registers, of which many are constants or copies, with
// jumps that mostly lead ahead.
func (c chance) copying(count int) []impl.Instr {
	regs := 2 + c.Intn(5)
	var l []impl.Instr
	for at := range count - 1 {
		op := [...]int{1, 1, 1, 1, 2, 2, 2, 2, 2, 3, 3, 4, 5, 6, 7, 7, 8, 9, 9, 10, 11, 12, 13}[c.Intn(23)]
		if op >= impl.IBarrier && op <= impl.IEnd && c.Intn(3) > 0 {
			op = impl.IMove
		}
		i := c.instr(op, count, regs)
		ahead := func() int { return at + 1 + c.Intn(min(count-at-1, 6)) }
		switch op {
		case impl.IConst:
			i.Word = [...]uint32{0, 0, 1, uint32(c.Intn(4)), i.Word}[c.Intn(5)]
		case impl.IOp:
			i.Word = [...]uint32{33, 41, 61, 77, i.Word}[c.Intn(5)]
		case impl.IIn:
			i.Word = uint32(c.Intn(6))
		case impl.ILoad, impl.IStore:
			i.Word = uint32(c.Intn(2))
		case impl.IJump:
			i.A = [...]int{at + 1, ahead(), ahead(), ahead(), ahead(), ahead(), ahead(), c.Intn(count)}[c.Intn(8)]
		case impl.IZero:
			i.B, i.C = ahead(), ahead()
			if c.Intn(12) == 0 {
				i.B = c.Intn(count)
			}
		}
		l = append(l, i)
	}
	if c.Intn(8) == 0 {
		return append(l, impl.Instr{Op: impl.IJump, A: c.Intn(count)})
	}
	return append(l, impl.Instr{Op: impl.IEnd})
}

// someCode: good code of one of several sorts.
func (c chance) someCode(n int) []impl.Instr {
	switch n % 8 {
	case 0:
		return c.walkable(1 + n%40)
	case 1:
		return c.parting(1 + n%40)
	case 2:
		return c.nested(n % 6)
	case 3:
		return c.skipping(1 + n%12)
	case 4:
		return c.code(1 + n%60)
	}
	return c.copying(1 + n%50)
}

func TestPassesByChance(t *testing.T) {
	t.Parallel()
	c := newChance(220)
	changed := map[string]int{}
	for n := range 6000 {
		for name, is := range heldPasses(t, c.someCode(n)) {
			if is {
				changed[name]++
			}
		}
	}
	for _, p := range allPasses() {
		if changed[p.name] < 1000 || changed[p.name] > 5990 {
			t.Errorf("%s changes %d of 6000", p.name, changed[p.name])
		}
	}
}

func TestPassesOfLongCode(t *testing.T) {
	t.Parallel()
	c := newChance(221)
	for range 4 {
		heldPasses(t, c.copying(600))
		heldPasses(t, c.code(600))
	}
}

func TestPassesOfCompiledKernels(t *testing.T) {
	t.Parallel()
	c := newChance(222)
	changed := map[string]int{}
	for n := range 300 {
		code, _ := impl.CompileKernel(c.someKernel(n))
		for name, is := range heldPasses(t, code) {
			if is {
				changed[name]++
			}
		}
	}
	if changed["FoldConsts"] < 120 || changed["FollowMoves"] < 120 || changed["ShortJumps"] < 12 || changed["DropUnread"] < 60 || changed["Improve"] < 180 || changed["DropUnreached"] > 0 {
		t.Errorf("of 300 kernels' code these are changed: %v", changed)
	}
}

// All code of three instructions, of a few of each op, ahead of an end or a jump.
func TestPassesOfAllSmallCode(t *testing.T) {
	t.Parallel()
	forms := instrs("const 1 0 | move 1 0 | move 0 1 | move 1 1 | store 0 1 0 | barrier | end | not 0 0 | load 1 1 0 | jump 0 | jump 1 | jump 2 | jump 3 | zero 1 2 3 | zero 1 3 2 | zero 0 1 0 | zero 1 0 3 | zero 1 3 3")
	for _, first := range forms {
		for _, second := range forms {
			for _, third := range forms {
				for _, last := range instrs("end | jump 0 | jump 2 | jump 3") {
					heldPasses(t, []impl.Instr{first, second, third, last})
				}
			}
		}
	}
}

// All code of up to five jumps, ahead of an end or alone.
func TestPassesOfAllJumps(t *testing.T) {
	t.Parallel()
	for count := 1; count <= 5; count++ {
		goals := make([]int, count)
		for more := true; more; {
			var l []impl.Instr
			for _, to := range goals {
				l = append(l, impl.Instr{Op: impl.IJump, A: to})
			}
			heldPasses(t, l)
			l[count-1] = impl.Instr{Op: impl.IEnd}
			heldPasses(t, l)
			more = false
			for at := range goals { // the next row of goals
				goals[at] = (goals[at] + 1) % count
				if goals[at] > 0 {
					more = true
					break
				}
			}
		}
	}
}
