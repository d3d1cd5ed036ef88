package tests

import (
	"slices"
	"strconv"
	"testing"

	"loop.example/g00053/impl"
)

// Warps, held against the other way.

func sameWarped(a, b impl.Warped) bool {
	return sameValues(a.Buffers, b.Buffers) && a.Issues == b.Issues && a.Work == b.Work && a.Deepest == b.Deepest && a.Code == b.Code
}

// heldWarps: all that is told of a run by warps.
func heldWarps(t *testing.T, l []impl.Instr, x impl.Launch) (impl.Warped, []impl.Branch) {
	t.Helper()
	got := impl.RunWarps(l, x)
	branches, ok := impl.BranchesOf(l, x)
	want, wantBranches := marched(l, x)
	if !sameWarped(got, want) {
		t.Errorf("RunWarps(%v, %v) = %v, want %v", l, x, got, want)
	}
	if !slices.Equal(branches, wantBranches) || ok != (want.Code == 0) {
		t.Errorf("BranchesOf(%v, %v) = %v, %v, want %v", l, x, branches, ok, wantBranches)
	}
	return got, branches
}

func heldJoins(t *testing.T, l []impl.Instr) bool {
	t.Helper()
	got := impl.JoinsFine(l)
	if want := wantJoins(l); got != want {
		t.Errorf("JoinsFine(%v) = %v", l, got)
	}
	return got
}

// parting: code whose lanes often part. Registers 0 and 1 have the lane's own
// numbers; jumps nearly always lead ahead.
func (c chance) parting(count int) []impl.Instr {
	l := instrs("in 0 1 | in 1 0 | const 2 3")
	count += len(l)
	for len(l) < count-1 {
		op := [...]int{1, 2, 3, 3, 3, 4, 5, 6, 7, 7, 8, 9, 9, 9, 9, 9, 12, 13, 11, 10}[c.Intn(20)]
		if op >= impl.IBarrier && op <= impl.IEnd && c.Intn(3) > 0 {
			op = impl.IOp
		}
		i := c.instr(op, count, 6)
		if slices.Contains(ops[op].fields, "D") {
			i.D = 2 + c.Intn(4)
		}
		ahead := func() int { return len(l) + 1 + c.Intn(min(count-len(l)-1, 9)) }
		switch op {
		case impl.IConst:
			i.Word = uint32(c.Intn(8))
		case impl.IOp:
			i.Word = [...]uint32{61, 61, 77, 13, 13, 33, i.Word}[c.Intn(7)]
		case impl.IIn:
			i.Word = uint32(c.Intn(6))
		case impl.ILoad, impl.IStore:
			i.Word = uint32([...]int{0, 0, 0, 1, 2, 16}[c.Intn(6)])
		case impl.IJump:
			i.A = ahead()
		case impl.IZero:
			i.B, i.C = ahead(), [...]int{ahead(), count - 1}[c.Intn(2)]
			if c.Intn(6) == 0 {
				i.C = i.B
			}
		}
		l = append(l, i)
	}
	if c.Intn(200) == 0 {
		at := c.Intn(len(l))
		l[at] = c.instr([...]int{impl.IJump, impl.IZero}[c.Intn(2)], count, 6)
	}
	return append(l, impl.Instr{Op: impl.IEnd})
}

// nest writes code of choices and loops that stand within one another, as
// kernels become, with ends in the middle.
type nest struct {
	chance
	code []impl.Instr
	ends int // one statement in so many is an end
}

func (c *nest) put(text string) int {
	c.code = append(c.code, instrs(text)...)
	return len(c.code) - 1
}

// condition: in register 4, by the lane's own number in register 0.
func (c *nest) condition() {
	c.put("const 3 " + strconv.Itoa(c.Intn(8)))
	c.put([...]string{"op 4 0 3 61", "op 4 3 0 61", "op 4 0 3 13", "op 4 0 3 77"}[c.Intn(4)])
}

func (c *nest) statement(deep int) {
	switch n := c.Intn(10); {
	case n < 4 && deep > 0:
		c.condition()
		zero := c.put("zero 4 0 0")
		c.block(deep - 1)
		other := len(c.code)
		if c.Intn(2) == 0 {
			jump := c.put("jump 0")
			other = len(c.code)
			c.block(deep - 1)
			c.code[jump].A = len(c.code)
		}
		c.code[zero].B, c.code[zero].C = other, len(c.code)
	case n < 6 && deep > 0:
		counter := strconv.Itoa(10 + deep)
		c.put("const 3 " + strconv.Itoa(1+c.Intn(8)) + " | op " + counter + " 0 3 9")
		zero := c.put("zero " + counter + " 0 0")
		c.block(deep - 1)
		c.put("const 3 1 | op " + counter + " " + counter + " 3 41 | jump " + strconv.Itoa(zero))
		c.code[zero].B, c.code[zero].C = len(c.code), len(c.code)
	case c.Intn(c.ends) == 0:
		c.put("end")
	case c.Intn(30) == 0:
		c.put("barrier")
	case c.Intn(2) == 0:
		c.put("load 5 0 0 | op 6 5 6 33 | store 1 6 0")
	default:
		c.code = append(c.code, c.instr([...]int{impl.IOp, impl.IMove, impl.INot, impl.ICall}[c.Intn(4)], 1, 6))
		c.code[len(c.code)-1].D = 5 + c.Intn(3)
	}
}

func (c *nest) block(deep int) {
	for range 1 + c.Intn(3) {
		c.statement(deep)
	}
}

// nested: code that is fine, but now and then for one number.
func (c chance) nested(deep int) []impl.Instr {
	for {
		n := &nest{chance: c, ends: 3 + c.Intn(20)}
		n.put("in 0 1 | in 1 0")
		n.block(deep)
		n.put("end")
		if len(n.code) > 120 {
			continue
		}
		if at := c.Intn(len(n.code)); c.Intn(3) == 0 && n.code[at].Op == impl.IZero {
			n.code[at].C = at + 1 + c.Intn(len(n.code)-at-1)
		}
		return n.code
	}
}

// toldOfWarps: what became of runs.
type toldOfWarps struct {
	codes  [4]int
	deep   [16]int
	splits int
	some   int // branches at which lanes part now and then
	ended  int // lanes pass a barrier where others have ended
}

func (w *toldOfWarps) add(t *testing.T, l []impl.Instr, x impl.Launch) {
	t.Helper()
	got, branches := heldWarps(t, l, x)
	w.codes[got.Code]++
	w.deep[got.Deepest]++
	for _, b := range branches {
		w.splits += b.Split
		if b.Split > 0 && b.Split < b.Taken {
			w.some++
		}
	}
	if got.Code == 0 && impl.RunCode(l, x).Code == impl.RunStuck {
		w.ended++
	}
}

func TestWarpsByChance(t *testing.T) {
	t.Parallel()
	c := newChance(200)
	w := &toldOfWarps{}
	for n := range 4000 {
		w.add(t, c.parting(1+n%40), c.codeLaunch())
	}
	if w.codes[0] < 3000 || w.codes[impl.RunSteps] < 3 || w.codes[impl.RunStuck] < 100 || w.codes[impl.RunBad] > 0 || w.splits < 4000 || w.some < 300 || w.ended < 10 {
		t.Errorf("%v", w)
	}
}

func TestWarpsOfNestedCode(t *testing.T) {
	t.Parallel()
	c := newChance(206)
	w := &toldOfWarps{}
	for n := range 5000 {
		w.add(t, c.nested(n%6), c.codeLaunch())
	}
	if w.codes[0] < 4000 || w.codes[impl.RunStuck] < 100 || w.codes[impl.RunBad] > 0 || w.splits < 9000 || w.some < 900 {
		t.Errorf("%v", w)
	}
	for entries, times := range w.deep {
		if entries%2 > 0 && times < 5 {
			t.Errorf("%d times %d entries at most", times, entries)
		}
	}
}

// Code of chapter 10, whose numbers are any.
func TestWarpsOfAnyCode(t *testing.T) {
	t.Parallel()
	c := newChance(201)
	codes := [4]int{}
	for n := range 600 {
		l := c.walkable(1 + n%40)
		if n%50 == 0 {
			l = c.code(c.someCount())
		}
		got, _ := heldWarps(t, l, c.codeLaunch())
		codes[got.Code]++
	}
	if codes[0] < 350 || codes[impl.RunSteps] < 5 || codes[impl.RunStuck] < 30 || codes[impl.RunBad] > 0 {
		t.Errorf("codes %v", codes)
	}
}

func TestWarpsOfCompiledKernels(t *testing.T) {
	t.Parallel()
	c := newChance(202)
	codes, splits := [4]int{}, 0
	for n := range 125 {
		l := c.someKernel(n)
		x := c.launchFor(l)
		if n%5 == 1 {
			x = c.calmLaunch(l, n%2 == 0)
		}
		code, _ := impl.CompileKernel(l)
		got, branches := heldWarps(t, code, x)
		codes[got.Code]++
		for _, b := range branches {
			splits += b.Split
		}
		if !heldJoins(t, code) {
			t.Errorf("the joins of %v are not fine", code)
		}
	}
	if codes[0] < 80 || codes[impl.RunStuck] > 0 || codes[impl.RunBad] > 0 || splits < 30 {
		t.Errorf("codes %v, %d times lanes part", codes, splits)
	}
}

// Launches with one thing changed, and code that is not good.
func TestWarpsThatAreBadByChance(t *testing.T) {
	t.Parallel()
	c := newChance(203)
	bad := 0
	for range 1500 {
		l, x := c.oneWrong(c.parting(1+c.Intn(6)), c.codeLaunch())
		heldJoins(t, l)
		if got, _ := heldWarps(t, l, x); got.Code == impl.RunBad {
			bad++
		}
	}
	if bad < 300 || bad > 1000 {
		t.Errorf("%d of 1500 are bad", bad)
	}
}

// skipping: code of jumps, of which many are as joins ask for.
func (c chance) skipping(count int) []impl.Instr {
	var l []impl.Instr
	for at := range count - 1 {
		near := func(from int) int { return min(from+c.Intn(4), count-1) }
		switch c.Intn(5) {
		case 0:
			l = append(l, impl.Instr{Op: impl.IJump, A: near(at + 1)})
		case 1:
			l = append(l, impl.Instr{Op: impl.IJump, A: max(0, at-c.Intn(4))})
		case 2, 3:
			b := near(at + 1)
			l = append(l, impl.Instr{Op: impl.IZero, B: b, C: near(b)})
		default:
			l = append(l, impl.Instr{Op: impl.IBarrier})
		}
	}
	return append(l, impl.Instr{Op: impl.IEnd})
}

func TestJoinsByChance(t *testing.T) {
	t.Parallel()
	c := newChance(204)
	fine := 0
	for n := range 6000 {
		l := c.skipping(1 + n%12)
		if n%10 == 0 {
			l = c.parting(1 + n%30)
		}
		if n%1000 == 0 {
			l = c.code(600)
		}
		if heldJoins(t, l) && slices.ContainsFunc(l, func(i impl.Instr) bool { return i.Op == impl.IZero }) {
			fine++
		}
	}
	if fine < 300 || fine > 4000 {
		t.Errorf("of 6000 the joins of %d are fine", fine)
	}
}

// All code of four instructions of which each is a jump, an IZero, or neither.
func TestJoinsOfAllSmallCode(t *testing.T) {
	t.Parallel()
	forms := instrs("move 0 0")
	for a := range 4 {
		forms = append(forms, impl.Instr{Op: impl.IJump, A: a})
		for b := range 4 {
			forms = append(forms, impl.Instr{Op: impl.IZero, B: a, C: b})
		}
	}
	fine := 0
	for _, first := range forms {
		for _, second := range forms {
			for _, third := range forms {
				for _, last := range append(instrs("end"), forms...) {
					if heldJoins(t, []impl.Instr{first, second, third, last}) {
						fine++
					}
				}
			}
		}
	}
	if fine < 1000 {
		t.Errorf("the joins of %d are fine", fine)
	}
}

// Compiled code with one number changed: mostly no longer fine.
func TestJoinsWithOneChange(t *testing.T) {
	t.Parallel()
	c := newChance(205)
	fine, tried := 0, 0
	for n := range 300 {
		l, _ := impl.CompileKernel(c.someKernel(n))
		for at, i := range l {
			for _, field := range ops[i.Op].fields {
				if ops[i.Op].holds[field] != "number" {
					continue
				}
				changed := slices.Clone(l)
				by := [...]int{-1, 1, -2, 2, c.Intn(len(l)) - fieldOf(i, field)}[c.Intn(5)]
				changed[at] = withField(i, field, fieldOf(i, field)+by)
				tried++
				if heldJoins(t, changed) {
					fine++
				}
			}
		}
	}
	if tried < 1000 || fine < 100 || fine > tried*3/4 {
		t.Errorf("of %d the joins of %d are fine", tried, fine)
	}
}
