package tests

import (
	"math"
	"slices"
	"strconv"
	"strings"
	"testing"

	"loop.example/g00053/impl"
)

// The edges that chapter 13 names, with what is told of code written out.

// toldRows: lists of numbers with `|` between each two.
func toldRows(rows [][]int) string {
	var told []string
	for _, row := range rows {
		var words []string
		for _, n := range row {
			words = append(words, strconv.Itoa(n))
		}
		told = append(told, strings.Join(words, " "))
	}
	return strings.Join(told, "|")
}

// toldAgain: the same with single blanks, however it is written.
func toldAgain(rows string) string {
	var told []string
	for _, row := range strings.Split(rows, "|") {
		told = append(told, strings.Join(strings.Fields(row), " "))
	}
	return strings.Join(told, "|")
}

// lives: the registers that live behind each instruction.
func lives(t *testing.T, text, want string) {
	t.Helper()
	l := instrs(linked(text))
	live, ok := impl.LiveOf(l)
	if got := toldRows(live); !ok || got != toldAgain(want) {
		t.Errorf("in %s live %s, want %s", toldCode(l), got, want)
	}
	heldRegisters(t, l, 1, 2)
}

// clash: the registers that clash with each.
func clash(t *testing.T, text, want string) {
	t.Helper()
	l := instrs(linked(text))
	clashes, ok := impl.ClashesOf(l)
	if got := toldRows(clashes); !ok || got != toldAgain(want) {
		t.Errorf("in %s clash %s, want %s", toldCode(l), got, want)
	}
	heldRegisters(t, l, 1, 2)
}

// stands: where the registers are for some places.
func stands(t *testing.T, text string, places int, where string, kept, slots int) {
	t.Helper()
	l := instrs(linked(text))
	a, ok := impl.AllocOf(l, places)
	if got := toldRows([][]int{a.Where}); !ok || got != where || a.Kept != kept || a.Slots != slots {
		t.Errorf("in %s for %d places: %v, %v, want %s, %d kept, %d slots", toldCode(l), places, a, ok, where, kept, slots)
	}
	heldRegisters(t, l, places)
}

func TestLivesFromWriteToRead(t *testing.T) {
	t.Parallel()
	lives(t, "end", "")
	lives(t, "jump 0", "")
	lives(t, "const 0 1 | end", "|")
	lives(t, "const 0 1 | store 0 0 0 | end", "0 | | ")
	lives(t, "store 0 0 0 | end", "|")
	lives(t, "barrier | store 0 1 0 | end", "0 1 | | ")
	lives(t, "const 0 1 | barrier | in 1 0 | store 1 0 0 | end", "0 | 0 | 0 1 | |")
	lives(t, "in 0 0 | store 0 0 0 | const 0 1 | store 0 0 0 | end", "0 | | 0 | |")
	lives(t, "in 0 0 | const 0 1 | store 0 0 0 | end", "| 0 | |")
	lives(t, "const 399 1 | const 7 1 | store 399 7 0 | end", "399 | 7 399 | |")
	// rising, however they are written and read
	lives(t, "in 3 0 | in 1 0 | in 2 0 | in 0 0 | call 4 3 0 2 10 | store 4 1 0 | end", "3 | 1 3 | 1 2 3 | 0 1 2 3 | 1 4 | |")
}

// All registers that an op reads live ahead of it; those that it names otherwise,
// and its numbers, do not.
func TestLivesByEachOp(t *testing.T) {
	t.Parallel()
	for line, want := range map[string]string{
		"const 9 5": "", "move 9 1": "1", "op 9 1 2 33": "1 2", "op 9 2 2 33": "2", "op 9 2 1 35": "1 2", "call 9 1 0 0 1": "1", "call 9 2 1 0 29": "1 2", "call 9 3 2 1 10": "1 2 3", "call 9 3 3 3 10": "3",
		"in 9 5": "", "load 9 1 5": "1", "store 1 2 5": "1 2", "store 2 1 5": "1 2", "store 1 1 5": "1", "zero 1 2 2": "1", "barrier": "", "not 9 1": "1", "neg 9 1": "1",
	} {
		lives(t, "barrier | "+line+" | end", want+"||")
	}
	lives(t, "barrier | end", "|")
	lives(t, "barrier | jump 1", "|")
	lives(t, "barrier | jump 2 | end", "||")
}

// One that reads and writes a register reads it first.
func TestLivesThroughWhatReadsAndWrites(t *testing.T) {
	t.Parallel()
	for _, line := range []string{"move 9 9", "op 9 9 9 33", "op 9 9 1 33", "op 9 1 9 33", "call 9 9 0 0 1", "call 9 1 9 0 29", "call 9 1 1 9 10", "load 9 9 0", "not 9 9", "neg 9 9"} {
		other := ""
		if strings.Contains(line, " 1 ") {
			other = "1"
		}
		lives(t, "const 9 3 | "+line+" | end", other+" 9 | |")
		lives(t, "const 9 3 | "+line+" | store 9 9 0 | end", other+" 9 | 9 | |")
		lives(t, "a: "+line+" | jump @a", other+" 9 |"+other+" 9")
	}
	// those that write it and do not read it end its life
	for _, line := range []string{"const 9 3", "move 9 1", "op 9 1 1 33", "call 9 1 0 0 1", "in 9 0", "load 9 1 0", "not 9 1", "neg 9 1"} {
		other := ""
		if strings.Contains(line, " 1") {
			other = "1"
		}
		lives(t, "barrier | "+line+" | store 9 9 0 | end", other+"|9||")
	}
}

func TestLivesAlongEachWay(t *testing.T) {
	t.Parallel()
	// an IZero leads to B, to C and behind itself
	lives(t, "zero 0 @b @c | store 1 1 0 | end | b: store 2 2 0 | end | c: store 3 3 0 | end", "1 2 3 | | | | | |")
	lives(t, "zero 0 @b @b | store 1 1 0 | end | b: store 2 2 0 | end", "1 2 | | | |")
	lives(t, "zero 0 @b @c | end | b: end | c: store 3 3 0 | end", "3 | | | |")
	lives(t, "zero 0 @b @c | end | b: store 2 2 0 | end | c: end", "2 | | | |")
	lives(t, "zero 0 1 1 | store 5 5 0 | end", "5 | |")
	lives(t, "a: zero 0 @a @a | store 5 5 0 | end", "0 5 | |")
	lives(t, "a: zero 0 @e @a | store 5 5 0 | e: end", "0 5 | |")
	// one way writes it, the other one does not
	lives(t, "zero 0 @e @e | const 1 1 | e: store 1 1 0 | end", "1 | 1 | |")
	lives(t, "zero 0 @b @e | const 1 1 | jump @e | b: const 1 2 | e: store 1 1 0 | end", "1 | 1 | 1 | 1 | |")
	lives(t, "zero 0 @b @b | const 1 1 | jump @e | b: const 1 2 | e: store 1 1 0 | end", "| 1 | 1 | 1 | |")
	// an IJump leads to A alone, an IEnd nowhere
	lives(t, "jump @e | store 1 1 0 | e: end", "| |")
	lives(t, "jump @a | store 1 1 0 | a: store 2 2 0 | end", "2 | 2 | |")
	lives(t, "end | store 1 1 0 | end", "| |")
	lives(t, "jump @a | b: store 1 2 0 | end | a: store 3 1 0 | jump @b", "1 2 3 | | | 1 2 | 1 2")
	// a barrier is passed
	lives(t, "barrier | barrier | store 1 1 0 | end", "1 | 1 | |")
}

func TestLivesThroughLoops(t *testing.T) {
	t.Parallel()
	lives(t, "a: store 0 0 0 | jump @a", "0 | 0")
	lives(t, "in 0 0 | a: store 0 0 0 | jump @a", "0 | 0 | 0")
	lives(t, "a: in 0 0 | store 0 0 0 | jump @a", "0 | |")
	lives(t, "a: store 0 0 0 | in 0 0 | jump @a", "| 0 | 0")
	lives(t, "const 0 3 | a: zero 0 @e @e | op 0 0 1 41 | jump @a | e: end", "0 1 | 0 1 | 0 1 | 0 1 |")
	lives(t, "in 1 0 | a: zero 0 @e @e | store 1 1 0 | in 1 0 | jump @a | e: store 2 2 0 | end", "0 1 2 | 0 1 2 | 0 2 | 0 1 2 | 0 1 2 | |")
	// two loops, one within the other
	lives(t, "in 5 0 | a: zero 0 @e @e | in 4 0 | b: zero 1 @f @f | store 4 5 0 | jump @b | f: store 4 1 0 | jump @a | e: end", "0 1 5 | 0 1 5 | 0 1 4 5 | 0 1 4 5 | 0 1 4 5 | 0 1 4 5 | 0 1 5 | 0 1 5 |")
	// numbers that fall all the way
	lives(t, "jump @c | a: store 7 7 0 | end | b: jump @a | c: jump @b", "7 | | | 7 | 7")
}

// What is not reached has its own ways.
func TestLivesInWhatIsNotReached(t *testing.T) {
	t.Parallel()
	lives(t, "end | barrier | store 5 6 0 | end", "| 5 6 | |")
	lives(t, "end | a: store 5 5 0 | jump @a", "| 5 | 5")
	lives(t, "jump @e | barrier | store 5 5 0 | e: store 6 6 0 | end", "6 | 5 6 | 6 | |")
	lives(t, "jump @e | zero 0 @e @f | f: store 5 5 0 | e: store 6 6 0 | end", "6 | 5 6 | 6 | |")
}

func TestLivesInLongCode(t *testing.T) {
	t.Parallel()
	// 300 are written in turn, and read from the last one to the first
	var l []impl.Instr
	for reg := range 300 {
		l = append(l, impl.Instr{Op: impl.IIn, D: reg})
	}
	for reg := 299; reg > 0; reg-- {
		l = append(l, impl.Instr{Op: impl.IStore, A: reg, B: reg})
	}
	l = append(l, impl.Instr{Op: impl.IEnd})
	live, ok := impl.LiveOf(l)
	for at, regs := range live {
		want := slices.DeleteFunc(upTo(min(at+1, 599-at)), func(reg int) bool { return reg == 0 })
		if !slices.Equal(regs, want) {
			t.Errorf("behind %d live %v", at, regs)
		}
	}
	if !ok || len(live) != 600 || impl.PressureOf(l) != 299 {
		t.Errorf("of %d, %d live at once", len(live), impl.PressureOf(l))
	}
	// 400 that live everywhere
	l = slices.Repeat(instrs("barrier"), 399)
	for reg := range 199 {
		l = append(l, impl.Instr{Op: impl.IStore, A: reg, B: 399 - reg})
	}
	l = append(l, instrs("store 199 200 0 | jump 0")...)
	live, _ = impl.LiveOf(l)
	for at, regs := range live {
		if !slices.Equal(regs, upTo(400)) {
			t.Errorf("behind %d live %d", at, len(regs))
		}
	}
	clashes, _ := impl.ClashesOf(l)
	for reg, others := range clashes {
		if len(others) != 399 || slices.Contains(others, reg) || !slices.IsSorted(others) {
			t.Errorf("with %d clash %v", reg, others)
		}
	}
	if len(live) != 600 || len(clashes) != 400 {
		t.Errorf("of 600 and 400: %d and %d", len(live), len(clashes))
	}
	for places, slots := range map[int]int{1: 399, 2: 398, 63: 337, 64: 336} {
		a, ok := impl.AllocOf(l, places)
		if !ok || a.Kept != places || a.Slots != slots || a.Where[0] != 0 || a.Where[399] != -slots {
			t.Errorf("for %d places %d have one, there are %d slots", places, a.Kept, a.Slots)
		}
		code, ok := impl.ApplyAlloc(l, a)
		if !ok || !slices.Equal(code, l) {
			t.Errorf("400 that all clash are not at their own places for %d", places)
		}
	}
}

func TestClashesByWrites(t *testing.T) {
	t.Parallel()
	clash(t, "end", "")
	if clashes, ok := impl.ClashesOf(instrs("end")); !ok || len(clashes) > 0 {
		t.Errorf("without registers clash %v", clashes)
	}
	clash(t, "const 0 1 | end", "")
	clash(t, "const 2 1 | end", "| |")
	clash(t, "in 0 0 | in 1 0 | store 0 1 0 | end", "1 | 0")
	clash(t, "in 1 0 | in 0 0 | store 0 1 0 | end", "1 | 0")
	clash(t, "in 0 0 | store 0 0 0 | in 1 0 | store 1 1 0 | end", "|")
	clash(t, "in 0 0 | not 1 0 | store 1 1 0 | end", "|")
	clash(t, "in 0 0 | not 1 0 | store 1 0 0 | end", "1 | 0")
	clash(t, "in 0 0 | in 1 0 | op 2 0 1 33 | store 2 2 0 | end", "1 | 0 |")
	clash(t, "in 0 0 | in 1 0 | op 2 0 1 33 | store 2 1 0 | end", "1 | 0 2 | 1")
	clash(t, "in 0 0 | in 1 0 | op 0 0 1 33 | store 0 1 0 | end", "1 | 0")
	// an instruction that writes what it reads
	clash(t, "in 0 0 | not 0 0 | store 0 0 0 | end", "")
	clash(t, "in 0 0 | in 1 0 | not 0 0 | store 0 1 0 | end", "1 | 0")
	// behind it, not ahead of it: what is read for the last time makes room
	clash(t, "in 0 0 | in 1 0 | store 0 0 0 | store 1 1 0 | end", "1 | 0")
	clash(t, "in 0 0 | load 1 0 0 | load 2 1 0 | store 2 2 0 | end", "| |")
	// rows rise, and registers that stand nowhere have one, too
	clash(t, "in 4 0 | in 2 0 | in 0 0 | call 6 4 2 0 10 | store 6 6 0 | end", "2 4 | | 0 4 | | 0 2 | |")
	// all ops that write one
	for _, line := range []string{"const 2 1", "op 2 1 1 33", "call 2 1 0 0 1", "call 2 1 1 1 10", "in 2 0", "load 2 1 0", "not 2 1", "neg 2 1"} {
		clash(t, "in 0 0 | in 1 0 | "+line+" | store 2 1 0 | end", "| 2 | 1")
	}
	// those that write none
	clash(t, "in 0 0 | store 0 0 0 | zero 0 3 3 | barrier | jump 5 | end", "")
}

// What is written and never read clashes with what lives behind.
func TestClashesOfWhatIsNeverRead(t *testing.T) {
	t.Parallel()
	clash(t, "in 0 0 | in 1 0 | store 0 0 0 | end", "1 | 0")
	clash(t, "in 1 0 | in 0 0 | store 0 0 0 | end", "|")
	clash(t, "in 0 0 | in 1 0 | end", "|")
	clash(t, "in 0 0 | in 1 0 | in 2 0 | in 3 0 | store 0 2 0 | end", "1 2 3 | 0 | 0 3 | 0 2")
	clash(t, "in 0 0 | in 1 0 | in 1 0 | store 0 1 0 | end", "1 | 0")
	// also where it is not reached
	clash(t, "end | in 0 0 | in 1 0 | store 0 0 0 | end", "1 | 0")
}

func TestClashesOfMoves(t *testing.T) {
	t.Parallel()
	clash(t, "in 0 0 | move 1 0 | store 0 1 0 | end", "|")
	clash(t, "in 1 0 | move 0 1 | store 0 1 0 | end", "|")
	// with all others it makes them clash
	clash(t, "in 2 0 | in 0 0 | move 1 0 | store 0 1 0 | store 2 2 0 | end", "2 | 2 | 0 1")
	// another instruction does: of the copy, of what it is a copy of
	clash(t, "in 0 0 | move 1 0 | not 1 1 | store 0 1 0 | end", "1 | 0")
	clash(t, "in 0 0 | move 1 0 | not 0 0 | store 0 1 0 | end", "1 | 0")
	clash(t, "in 0 0 | move 1 0 | store 1 1 0 | in 1 0 | store 0 1 0 | end", "1 | 0")
	// a move the other way round does not, one from elsewhere does
	clash(t, "in 0 0 | move 1 0 | move 0 1 | store 0 1 0 | end", "|")
	clash(t, "in 0 0 | move 1 0 | move 2 1 | store 0 2 0 | store 1 1 0 | end", "2 | | 0")
	// a copy that is never read, and one of what is not read again
	clash(t, "in 0 0 | move 1 0 | store 0 0 0 | end", "|")
	clash(t, "in 0 0 | move 1 0 | store 1 1 0 | end", "|")
	// to itself
	clash(t, "in 0 0 | move 0 0 | store 0 0 0 | end", "")
	clash(t, "in 0 0 | in 1 0 | move 0 0 | store 0 1 0 | end", "1 | 0")
	clash(t, "in 0 0 | move 1 0 | move 1 1 | store 0 1 0 | end", "1 | 0")
	// both live ahead of number 0
	clash(t, "move 1 0 | store 0 1 0 | end", "|")
	clash(t, "a: store 0 1 0 | move 1 0 | jump @a", "1 | 0")
	// on one way alone it is a copy
	clash(t, "in 0 0 | zero 0 @b @e | move 1 0 | jump @e | b: const 1 5 | e: store 0 1 0 | end", "1 | 0")
	clash(t, "in 0 0 | zero 0 @b @b | move 1 0 | jump @e | b: move 1 0 | e: store 0 1 0 | end", "|")
}

// Registers that live ahead of number 0, as behind an instruction ahead of it that
// does nothing.
func TestClashesAheadOfTheFirst(t *testing.T) {
	t.Parallel()
	clash(t, "store 0 1 0 | end", "1 | 0")
	clash(t, "store 0 0 0 | end", "")
	clash(t, "store 0 0 0 | store 1 1 0 | end", "1 | 0")
	clash(t, "store 3 1 0 | call 5 1 5 3 10 | end", "| 3 5 | | 1 5 | | 1 3")
	clash(t, "zero 0 @b @b | store 1 1 0 | end | b: store 2 2 0 | end", "1 2 | 0 2 | 0 1")
	// number 0 writes one, reads one, both of one
	clash(t, "const 0 1 | store 0 1 0 | end", "1 | 0")
	clash(t, "const 0 1 | store 0 0 0 | end", "")
	clash(t, "not 0 1 | store 0 0 0 | end", "|")
	clash(t, "not 0 1 | store 0 2 0 | end", "2 | 2 | 0 1")
	clash(t, "not 0 0 | store 1 1 0 | end", "1 | 0")
	// where a jump leads to number 0, what lives ahead of it is written behind
	clash(t, "a: store 0 0 0 | in 1 0 | store 1 1 0 | jump @a", "1 | 0")
	clash(t, "jump @a | a: store 0 1 0 | end", "1 | 0")
	// what is not reached does not live ahead of it
	clash(t, "end | store 0 1 0 | end", "|")
	clash(t, "jump @e | barrier | store 0 1 0 | e: store 2 3 0 | end", "| | 3 | 2")
}

func TestPlacesInOrder(t *testing.T) {
	t.Parallel()
	stands(t, "end", 1, "", 0, 0)
	stands(t, "barrier | jump 0", 64, "", 0, 0)
	stands(t, "const 0 1 | end", 1, "0", 1, 0)
	stands(t, "const 3 1 | end", 1, "0 0 0 0", 4, 0)
	// by the instruction that writes each first, not by their numbers
	stands(t, "in 2 0 | in 0 0 | in 1 0 | call 2 0 1 2 10 | store 2 2 0 | end", 64, "1 2 0", 3, 0)
	stands(t, "in 2 0 | in 0 0 | in 1 0 | call 2 0 1 2 10 | store 2 2 0 | end", 2, "1 -1 0", 2, 1)
	stands(t, "in 2 0 | in 0 0 | in 1 0 | call 2 0 1 2 10 | store 2 2 0 | end", 1, "-1 -2 0", 1, 2)
	stands(t, "in 0 0 | in 1 0 | in 2 0 | call 2 0 1 2 10 | store 2 2 0 | end", 1, "0 -1 -2", 1, 2)
	// the first write counts, reached or not, however often it is written later
	stands(t, "in 1 0 | in 0 0 | in 1 0 | store 0 1 0 | end", 64, "1 0", 2, 0)
	stands(t, "jump @a | in 1 0 | a: in 0 0 | in 1 0 | store 0 1 0 | end", 64, "1 0", 2, 0)
	stands(t, "jump @a | b: in 0 0 | store 0 1 0 | end | a: in 1 0 | jump @b", 64, "0 1", 2, 0)
	// those that none writes first of all, by number
	stands(t, "in 0 0 | store 0 2 0 | store 1 1 0 | end", 64, "2 0 1", 3, 0)
	stands(t, "in 0 0 | store 0 2 0 | store 1 1 0 | end", 2, "-1 0 1", 2, 1)
	stands(t, "in 0 0 | store 0 2 0 | store 1 1 0 | end", 1, "-2 0 -1", 1, 2)
	stands(t, "store 3 2 0 | store 0 1 0 | end", 3, "0 1 2 -1", 3, 1)
	stands(t, "in 1 0 | store 1 3 0 | end", 2, "0 1 0 0", 4, 0)
}

func TestTheLeastPlaceThatIsFree(t *testing.T) {
	t.Parallel()
	// 0 and 2 clash with 1 alone
	stands(t, "in 0 0 | in 1 0 | store 0 0 0 | in 2 0 | store 2 1 0 | end", 2, "0 1 0", 3, 0)
	// a gap: 3 clashes with those at 0 and 2
	stands(t, "in 0 0 | in 1 0 | in 2 0 | store 1 1 0 | in 3 0 | store 3 0 0 | store 2 2 0 | end", 4, "0 1 2 1", 4, 0)
	stands(t, "in 0 0 | in 1 0 | in 2 0 | store 1 1 0 | in 3 0 | store 3 0 0 | store 2 2 0 | end", 2, "0 1 -1 1", 3, 1)
	stands(t, "in 0 0 | in 1 0 | in 2 0 | store 1 1 0 | in 3 0 | store 3 0 0 | store 2 2 0 | end", 1, "0 -1 -2 -1", 1, 2)
	// the place of one that stands in a slot is free
	stands(t, "in 0 0 | in 1 0 | store 0 0 0 | in 2 0 | store 1 2 0 | end", 1, "0 -1 0", 2, 1)
	// those that come later do not count: 0 stands first, whatever 1 and 2 get
	stands(t, "in 0 0 | in 1 0 | in 2 0 | store 0 1 0 | store 2 0 0 | end", 64, "0 1 2", 3, 0)
	// copies share
	stands(t, "in 0 0 | move 1 0 | store 0 1 0 | end", 1, "0 0", 2, 0)
	stands(t, "in 0 0 | move 1 0 | not 1 1 | store 0 1 0 | end", 1, "0 -1", 1, 1)
	// what is written and never read gets a place of its own
	stands(t, "in 0 0 | in 1 0 | store 0 0 0 | end", 2, "0 1", 2, 0)
	// 64 places and one more
	var write, read []string
	for reg := range 65 {
		write = append(write, "in "+strconv.Itoa(reg)+" 0")
		read = append(read, "store "+strconv.Itoa(reg)+" 0 0")
	}
	text := strings.Join(append(write, read...), " | ") + " | end"
	where := strings.Trim(toldRows([][]int{upTo(64)}), " ")
	stands(t, text, 64, where+" -1", 64, 1)
	stands(t, text, 63, strings.TrimSuffix(where, " 63")+" -1 -2", 63, 2)
}

func TestHowManyPlaces(t *testing.T) {
	t.Parallel()
	for _, text := range []string{"end", "in 0 0 | end", "in 0 0 | in 1 0 | store 0 1 0 | end"} {
		l := instrs(text)
		for _, places := range []int{0, -1, 65, 66, math.MinInt, math.MaxInt, 1 << 32, 1<<32 + 1, -64} {
			if a, ok := impl.AllocOf(l, places); ok || !sameAlloc(a, impl.Alloc{}) {
				t.Errorf("for %d places: %v, %v", places, a, ok)
			}
		}
		for _, places := range []int{1, 2, 63, 64} {
			if a, ok := impl.AllocOf(l, places); !ok || len(a.Where) != impl.RegsOf(l) {
				t.Errorf("for %d places: %v, %v", places, a, ok)
			}
		}
	}
}

// threeThatClash: registers 0, 1 and 2 clash with each other, 3 with none.
const threeThatClash = "in 3 0 | in 0 0 | in 1 0 | in 2 0 | call 0 0 1 2 10 | store 0 0 0 | end"

// holdsFor: for how many places an alloc holds, from 1 up to 64; the same for all
// that are more.
func holdsFor(t *testing.T, text string, a impl.Alloc, from int) {
	t.Helper()
	s := studied(instrs(linked(text)))
	for places := -1; places <= 66; places++ {
		if got := heldAlloc(t, s, a, places); got != (places >= from && places <= 64) {
			t.Errorf("%s: %v holds for %d places: %v", text, a, places, got)
		}
	}
	for _, places := range []int{math.MinInt, math.MaxInt, 1 << 32, 1<<32 + 64} {
		if impl.AllocHolds(s.l, a, places) {
			t.Errorf("%s: %v holds for %d places", text, a, places)
		}
	}
}

func holdsForNone(t *testing.T, text string, allocs ...impl.Alloc) {
	t.Helper()
	for _, a := range allocs {
		holdsFor(t, text, a, math.MaxInt)
		if code, ok := impl.ApplyAlloc(instrs(linked(text)), a); ok || len(code) > 0 {
			t.Errorf("%s by %v: %s", text, a, toldCode(code))
		}
	}
}

func TestWhichAllocsHold(t *testing.T) {
	t.Parallel()
	holdsFor(t, threeThatClash, counted(0, 1, 2, 0), 3)
	holdsFor(t, threeThatClash, counted(2, 0, 1, 2), 3)
	holdsFor(t, threeThatClash, counted(0, 1, 2, 63), 64)
	holdsFor(t, threeThatClash, counted(0, 1, -1, 0), 2)
	holdsFor(t, threeThatClash, counted(0, -1, -2, 0), 1)
	holdsFor(t, threeThatClash, counted(-1, -2, -3, -1), 1)
	holdsFor(t, threeThatClash, counted(-3, -2, -1, 9), 10)
	holdsFor(t, threeThatClash, counted(-3, -2, -400, -400), 1)
	holdsFor(t, threeThatClash, counted(62, 63, -1, -1), 64)
	// places and slots of one number are not the same
	holdsFor(t, threeThatClash, counted(0, -1, 1, -2), 2)
	holdsFor(t, "end", impl.Alloc{}, 1)
	holdsFor(t, "in 0 0 | move 1 0 | store 0 1 0 | end", counted(0, 0), 1)
	holdsFor(t, "in 0 0 | move 1 0 | store 0 1 0 | end", counted(-1, -1), 1)
	// a place beyond all places, a slot beyond all slots
	holdsForNone(t, threeThatClash, counted(0, 1, 2, 64), counted(0, 1, 2, 399), counted(0, 1, 2, math.MaxInt), counted(0, 1, 2, -401), counted(-1, -2, -3, -402))
	holdsForNone(t, threeThatClash, impl.Alloc{Where: []int{0, 1, 2, math.MinInt}, Kept: 3, Slots: math.MinInt}, impl.Alloc{Where: []int{0, 1, 2, math.MinInt}, Kept: 3, Slots: math.MaxInt}, impl.Alloc{Where: []int{0, 1, 2, math.MinInt}, Kept: 3}, impl.Alloc{Where: []int{0, 1, 2, -math.MaxInt}, Kept: 3, Slots: math.MaxInt})
	// too short and too long
	holdsForNone(t, threeThatClash, counted(), counted(0, 1, 2), counted(0, 1, 2, 0, 0), counted(0, 1, 2, 0, 3), counted(-1, -2, -3), impl.Alloc{Where: []int{0, 1, 2}, Kept: 4})
	holdsForNone(t, "end", counted(0), counted(-1), impl.Alloc{Kept: 1}, impl.Alloc{Slots: 1}, impl.Alloc{Kept: -1}, impl.Alloc{Slots: -1})
	// two that clash have one place, or one slot
	holdsForNone(t, threeThatClash, counted(0, 0, 1, 0), counted(0, 1, 0, 0), counted(1, 0, 0, 0), counted(-1, -1, 0, 0), counted(-1, 0, -1, 0), counted(0, -1, -1, 0), counted(63, 63, 0, 0), counted(-400, -400, -1, -1))
}

func TestCountsOfAllocs(t *testing.T) {
	t.Parallel()
	for _, a := range []impl.Alloc{counted(0, 1, 2, 0), counted(0, 1, -1, 0), counted(0, -1, -2, -3), counted(-1, -2, -3, -4)} {
		for _, off := range []int{-1, 1, 2, -a.Kept - 1, 400, math.MinInt, math.MaxInt} {
			other := a
			other.Kept += off
			holdsForNone(t, threeThatClash, other)
		}
		for _, off := range []int{-1, 1, -2, -a.Slots - 1, 400 - a.Slots, 401 - a.Slots, math.MinInt, math.MaxInt} {
			other := a
			if other.Slots += off; off != 0 {
				holdsForNone(t, threeThatClash, other)
			}
		}
	}
	// a slot that is not below Slots
	holdsForNone(t, threeThatClash, impl.Alloc{Where: []int{0, 1, 2, -1}, Kept: 3}, impl.Alloc{Where: []int{0, 1, -1, -2}, Kept: 2, Slots: 1}, impl.Alloc{Where: []int{0, 1, -1, -2}, Kept: 2, Slots: 3})
}

// by: the code by an alloc.
func by(t *testing.T, text string, a impl.Alloc, want string) {
	t.Helper()
	l := instrs(linked(text))
	code, ok := impl.ApplyAlloc(l, a)
	if !ok || toldCode(code) != toldCode(instrs(linked(want))) {
		t.Errorf("%s by %v: %s, %v, want %s", toldCode(l), a, toldCode(code), ok, want)
	}
	heldAlloc(t, studied(l), a, 64)
}

func TestCodeByAnAlloc(t *testing.T) {
	t.Parallel()
	by(t, "end", impl.Alloc{}, "end")
	by(t, "in 0 0 | end", counted(0), "in 0 0 | end")
	by(t, "in 0 0 | end", counted(63), "in 63 0 | end")
	by(t, "in 399 0 | end", counted(slices.Repeat([]int{5}, 400)...), "in 5 0 | end")
	// places alone, slots alone, both
	by(t, threeThatClash, counted(5, 3, 4, 5), "in 5 0 | in 5 0 | in 3 0 | in 4 0 | call 5 5 3 4 10 | store 5 5 0 | end")
	by(t, threeThatClash, counted(-1, -2, -3, -1), "in 0 0 | in 0 0 | in 1 0 | in 2 0 | call 0 0 1 2 10 | store 0 0 0 | end")
	by(t, threeThatClash, counted(-4, -2, -3, -1), "in 0 0 | in 3 0 | in 1 0 | in 2 0 | call 3 3 1 2 10 | store 3 3 0 | end")
	by(t, threeThatClash, counted(0, -1, -2, 0), "in 0 0 | in 0 0 | in 1 0 | in 2 0 | call 0 0 1 2 10 | store 0 0 0 | end")
	by(t, threeThatClash, counted(-1, 0, -2, 7), "in 7 0 | in 8 0 | in 0 0 | in 9 0 | call 8 8 0 9 10 | store 8 8 0 | end")
	// registers that stand nowhere count for P, too
	by(t, "in 1 0 | store 3 1 0 | end", counted(9, -1, 0, 0), "in 10 0 | store 0 10 0 | end")
	// words and numbers stay
	by(t, "in 2 2 | a: zero 2 @b @c | const 2 2 | load 2 2 2 | store 2 2 2 | c: op 2 2 2 33 | jump @a | b: end", counted(7, 7, 5), "in 5 2 | a: zero 5 @b @c | const 5 2 | load 5 5 2 | store 5 5 2 | c: op 5 5 5 33 | jump @a | b: end")
}

// Each field that names a register is another one then, and no other field.
func TestEachFieldByAnAlloc(t *testing.T) {
	t.Parallel()
	for line, want := range map[string]string{
		"const 1 1": "const 11 1", "const 1 4294967295": "const 11 4294967295", "move 1 2": "move 11 12", "move 2 1": "move 12 11", "op 1 2 3 33": "op 11 12 13 33", "op 3 1 2 35": "op 13 11 12 35",
		"call 1 2 3 4 10": "call 11 12 13 14 10", "call 4 3 2 1 10": "call 14 13 12 11 10", "call 1 2 3 0 29": "call 11 12 13 0 29", "call 1 2 0 0 1": "call 11 12 0 0 1",
		"in 1 1": "in 11 1", "load 1 2 1": "load 11 12 1", "load 2 1 3": "load 12 11 3", "store 1 2 1": "store 11 12 1", "store 2 1 3": "store 12 11 3",
		"jump 1": "jump 1", "zero 1 1 1": "zero 11 1 1", "zero 2 0 1": "zero 12 0 1", "barrier": "barrier", "end": "end", "not 1 2": "not 11 12", "not 2 1": "not 12 11", "neg 1 2": "neg 11 12", "neg 2 1": "neg 12 11",
	} {
		// register 0, which fields that are not named hold, is another one, too
		by(t, line+" | store 0 4 0 | end", counted(10, 11, 12, 13, 14), want+" | store 10 14 0 | end")
		slots := strings.NewReplacer("11", "53", "12", "52", "13", "51", "14", "50").Replace(want)
		if strings.Contains(line, "4294967295") {
			continue
		}
		by(t, line+" | store 0 4 0 | end", counted(49, -4, -3, -2, -1), slots+" | store 49 50 0 | end")
	}
}

// All registers must be below 400.
func TestRegistersThatAreTooHigh(t *testing.T) {
	t.Parallel()
	const text = "in 0 0 | in 1 0 | store 0 1 0 | end"
	by(t, text, counted(0, -399), "in 0 0 | in 399 0 | store 0 399 0 | end")
	by(t, text, counted(-400, -1), "in 399 0 | in 0 0 | store 399 0 0 | end")
	by(t, text, counted(63, -336), "in 63 0 | in 399 0 | store 63 399 0 | end")
	for _, a := range []impl.Alloc{counted(0, -400), counted(1, -399), counted(63, -337), counted(-337, 63), counted(63, -400)} {
		l := instrs(text)
		if code, ok := impl.ApplyAlloc(l, a); ok || len(code) > 0 {
			t.Errorf("by %v: %s", a, toldCode(code))
		}
		if !heldAlloc(t, studied(l), a, 64) {
			t.Errorf("%v does not hold", a)
		}
	}
	// one that stands nowhere counts, too
	if code, ok := impl.ApplyAlloc(instrs("in 1 0 | end"), counted(-400, 0)); ok || len(code) > 0 {
		t.Errorf("a register that stands nowhere is number 400: %s", toldCode(code))
	}
}

// presses: how many live behind one instruction at most.
func presses(t *testing.T, text string, want int) {
	t.Helper()
	if got := impl.PressureOf(instrs(linked(text))); got != want {
		t.Errorf("in %s %d live at once, want %d", text, got, want)
	}
}

func TestPressure(t *testing.T) {
	t.Parallel()
	presses(t, "end", 0)
	presses(t, "jump 0", 0)
	presses(t, "in 0 0 | end", 0)
	presses(t, "in 0 0 | store 0 0 0 | end", 1)
	presses(t, "in 0 0 | in 1 0 | in 2 0 | store 0 1 0 | store 2 2 0 | end", 3)
	// ahead of the first one is behind none
	presses(t, "call 0 1 2 3 10 | store 0 0 0 | end", 1)
	presses(t, "a: call 0 1 2 3 10 | store 0 0 0 | jump @a", 4)
	// at the first, at an inner one, at the last
	presses(t, "barrier | call 0 1 2 3 10 | store 0 0 0 | end", 3)
	presses(t, "in 0 0 | in 1 0 | store 1 1 0 | in 2 0 | in 3 0 | call 4 0 2 3 10 | store 4 4 0 | end", 3)
	presses(t, "a: call 0 1 2 3 10 | in 1 0 | in 2 0 | in 3 0 | store 0 0 0 | jump @a", 4)
	presses(t, "a: store 1 1 0 | store 2 2 0 | store 3 3 0 | zero 3 @b @b | in 1 0 | in 2 0 | in 3 0 | jump @a | b: end", 3)
	presses(t, "in 0 0 | jump @a | b: store 1 2 0 | store 3 4 0 | end | a: jump @b", 4)
	// what is not reached counts, too
	presses(t, "end | barrier | store 1 2 0 | end", 2)
	// no good code
	for _, l := range [][]impl.Instr{nil, {}, instrs("in 0 0 | store 0 0 0"), instrs("barrier | store 400 0 0 | end"), instrs("barrier | store 0 0 1000 | end"), slices.Repeat(instrs("store 0 0 0"), 600), append(slices.Repeat(instrs("store 0 0 0"), 600), impl.Instr{Op: impl.IEnd})} {
		if got := impl.PressureOf(l); got != 0 {
			t.Errorf("in %d that are no good code %d live", len(l), got)
		}
	}
	if got := impl.PressureOf(append(slices.Repeat(instrs("store 0 0 0"), 599), impl.Instr{Op: impl.IEnd})); got != 1 {
		t.Errorf("in 600 %d live", got)
	}
}

func TestOccupancy(t *testing.T) {
	t.Parallel()
	for _, row := range [][4]int{
		// no bound but 8 groups
		{0, 0, 1, 8}, {0, 0, 8, 8}, {1, 0, 1, 8}, {1, 1, 1, 8}, {4, 8, 8, 8}, {32, 64, 1, 8}, {32, 0, 1, 8}, {0, 64, 1, 8},
		// places are the least: 256 of them
		{33, 0, 1, 7}, {36, 0, 1, 7}, {37, 0, 1, 6}, {64, 0, 1, 4}, {64, 0, 2, 2}, {64, 0, 4, 1}, {64, 0, 5, 0}, {64, 0, 8, 0}, {32, 0, 8, 1}, {33, 0, 8, 0}, {16, 0, 8, 2}, {5, 0, 8, 6}, {5, 10, 8, 6}, {64, 128, 1, 4}, {63, 0, 1, 4}, {51, 0, 1, 5}, {52, 0, 1, 4}, {43, 0, 3, 1}, {28, 0, 3, 3},
		// slots are: 512 of them
		{0, 65, 1, 7}, {0, 73, 1, 7}, {0, 74, 1, 6}, {0, 400, 1, 1}, {0, 400, 2, 0}, {0, 256, 1, 2}, {0, 256, 2, 1}, {0, 257, 1, 1}, {0, 257, 2, 0}, {0, 64, 8, 1}, {0, 65, 8, 0}, {0, 9, 8, 7}, {1, 9, 8, 7}, {64, 400, 1, 1}, {4, 16, 8, 4}, {0, 400, 8, 0},
		// one off the ends
		{-1, 0, 1, 0}, {65, 0, 1, 0}, {0, -1, 1, 0}, {0, 401, 1, 0}, {0, 0, 0, 0}, {0, 0, 9, 0}, {1, 1, -1, 0}, {-1, -1, -1, 0}, {-1, -1, 1, 0}, {-1, 1, -1, 0},
		// far beyond
		{math.MaxInt, 0, 1, 0}, {math.MinInt, 0, 1, 0}, {0, math.MaxInt, 1, 0}, {0, math.MinInt, 1, 0}, {0, 0, math.MaxInt, 0}, {0, 0, math.MinInt, 0}, {1 << 61, 0, 8, 0}, {0, 1 << 61, 8, 0}, {1<<32 + 1, 1, 1, 0}, {1, 1<<32 + 1, 1, 0}, {1, 1, 1<<32 + 1, 0},
	} {
		if got := impl.OccupancyOf(row[0], row[1], row[2]); got != row[3] {
			t.Errorf("OccupancyOf(%d, %d, %d) = %d, want %d", row[0], row[1], row[2], got, row[3])
		}
	}
}
