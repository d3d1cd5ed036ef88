package tests

import (
	"slices"
	"strings"
	"testing"

	"loop.example/g00053/impl"
)

// The edges that chapter 12 names, with what comes of code written out.

// toldCode: code by its lines.
func toldCode(l []impl.Instr) string {
	text, ok := impl.CodeText(l)
	if !ok {
		return "no good code"
	}
	return strings.ReplaceAll(strings.TrimSuffix(text, "\n"), "\n", " | ")
}

// passMakes: what a pass makes of code; the others are held against the other way.
func passMakes(t *testing.T, name, text, want string) {
	t.Helper()
	passGives(t, name, text, want)
	heldPasses(t, instrs(linked(text)))
}

// passGives: what a pass makes of code.
func passGives(t *testing.T, name, text, want string) {
	t.Helper()
	l := instrs(linked(text))
	at := slices.IndexFunc(allPasses(), func(p pass) bool { return p.name == name })
	got, ok := allPasses()[at].of(l)
	if told := toldCode(got); !ok || told != toldCode(instrs(linked(want))) {
		t.Errorf("%s of %s: %s, want %s", name, toldCode(l), told, toldCode(instrs(linked(want))))
	}
}

func passKeeps(t *testing.T, name string, texts ...string) {
	t.Helper()
	for _, text := range texts {
		passMakes(t, name, text, text)
	}
}

// reaches: for each instruction whether it can be reached.
func reaches(t *testing.T, text, want string) {
	t.Helper()
	l := instrs(linked(text))
	reached, ok := impl.ReachedOf(l)
	got := ""
	for _, is := range reached {
		got += map[bool]string{true: "1", false: "0"}[is]
	}
	if !ok || got != want {
		t.Errorf("of %s reached are %s, want %s", toldCode(l), got, want)
	}
	heldPasses(t, l)
}

func TestReachedByEachOp(t *testing.T) {
	t.Parallel()
	reaches(t, "end", "1")
	reaches(t, "jump 0", "1")
	for _, line := range []string{"const 0 1", "move 0 1", "op 0 1 2 33", "call 0 1 2 3 10", "in 0 0", "load 0 1 0", "store 0 1 0", "barrier", "not 0 1", "neg 0 1"} {
		reaches(t, line+" | end", "11")
		reaches(t, line+" | "+line+" | jump 0", "111")
		reaches(t, "jump @e | "+line+" | e: end", "101")
	}
	reaches(t, "end | end", "10")
	reaches(t, "end | const 0 1 | end", "100")
	reaches(t, "jump 2 | barrier | end", "101")
	reaches(t, "jump 1 | end", "11")
	reaches(t, "jump 0 | end", "10")
	reaches(t, "jump 1 | jump 3 | end | end", "1101")
}

// An IZero leads to B, to C and behind itself, whatever its register has.
func TestReachedByZero(t *testing.T) {
	t.Parallel()
	reaches(t, "zero 0 2 4 | jump 6 | end | end | end | end | end", "1110101")
	reaches(t, "zero 0 4 2 | jump 6 | end | end | end | end | end", "1110101")
	reaches(t, "zero 0 3 3 | end | end | end", "1101")
	reaches(t, "zero 0 1 1 | end | end", "110")
	reaches(t, "zero 0 0 0 | end | end", "110")
	reaches(t, "const 0 0 | zero 0 4 3 | end | end | end", "11111")
	reaches(t, "const 0 1 | zero 0 4 3 | end | end | end", "11111")
	reaches(t, "zero 0 1 3 | end | end | zero 1 2 4 | end", "11111")
}

func TestReachedInLoops(t *testing.T) {
	t.Parallel()
	reaches(t, "const 0 1 | jump 0 | end", "110")
	reaches(t, "jump 2 | jump 3 | jump 1 | jump 2 | end", "11110")
	reaches(t, "jump 4 | end | jump 1 | end | jump 2 | end", "111010")
	reaches(t, "const 0 1 | zero 0 4 4 | const 0 2 | jump 1 | end", "11111")
	// what only something unreached leads to: a ring, a row, an IZero
	reaches(t, "jump 3 | jump 2 | jump 1 | end", "1001")
	reaches(t, "end | jump 2 | jump 3 | end", "1000")
	reaches(t, "end | zero 0 2 3 | end | end", "1000")
	reaches(t, "jump 5 | zero 0 2 4 | const 1 1 | const 2 2 | jump 5 | end", "100001")
	reaches(t, "jump 5 | zero 0 5 0 | const 1 1 | const 2 2 | jump 5 | end", "100001")
}

// Every third of 600 is reached, from the last one of them to the first.
func TestReachedInLongCode(t *testing.T) {
	t.Parallel()
	l := slices.Repeat(instrs("end"), 600)
	want := make([]bool, 600)
	var left []impl.Instr
	for at := range 200 {
		l[3*at], want[3*at] = impl.Instr{Op: impl.IJump, A: (3*at + 597) % 600}, true
		left = append(left, impl.Instr{Op: impl.IJump, A: (at + 199) % 200})
	}
	if got, ok := impl.ReachedOf(l); !ok || !slices.Equal(got, want) {
		t.Errorf("of every third of 600 reached are %v", got)
	}
	if got, ok := impl.DropUnreached(l); !ok || !slices.Equal(got, left) {
		t.Errorf("of every third of 600 left are %v", got)
	}
}

func TestDropUnreached(t *testing.T) {
	t.Parallel()
	passKeeps(t, "DropUnreached",
		"end", "jump 0", "const 0 1 | end", "const 0 1 | jump 0", "zero 0 2 1 | end | end", "jump 1 | end",
		"const 0 1 | zero 0 @e @e | store 0 0 0 | e: end", "barrier | jump 0")
	passMakes(t, "DropUnreached", "end | end", "end")
	passMakes(t, "DropUnreached", "end | jump 1", "end")
	passMakes(t, "DropUnreached", "jump 0 | const 0 1 | end", "jump 0")
	passMakes(t, "DropUnreached", "jump @e | e: end | end", "jump 1 | end")
	// the one right ahead of the last, several in a row, several rows
	passMakes(t, "DropUnreached", "jump @e | barrier | e: end", "jump @e | e: end")
	passMakes(t, "DropUnreached", "jump @e | const 0 1 | store 0 1 0 | barrier | end | e: end", "jump @e | e: end")
	passMakes(t, "DropUnreached", "jump @a | not 1 1 | b: const 0 1 | jump @e | neg 1 1 | in 1 1 | a: const 0 2 | jump @b | move 1 1 | e: end | load 1 1 0 | end",
		"jump @a | b: const 0 1 | jump @e | a: const 0 2 | jump @b | e: end")
	// the last one of the code, with what leads to it from what is taken out
	passMakes(t, "DropUnreached", "const 0 1 | end | jump @z | zero 0 @z @z | z: jump @z", "const 0 1 | end")
	passMakes(t, "DropUnreached", "a: const 0 1 | jump @a | zero 0 @a @z | z: end", "a: const 0 1 | jump @a")
	// what is written and not read stays, and so does what does nothing
	passMakes(t, "DropUnreached", "const 0 1 | move 1 1 | jump @e | const 2 2 | e: jump @f | const 3 3 | f: end", "const 0 1 | move 1 1 | jump @e | e: jump @f | f: end")
	// all numbers of an IZero
	passMakes(t, "DropUnreached", "jump @a | end | b: const 0 0 | end | barrier | c: const 0 1 | end | barrier | a: zero 0 @b @c | const 0 2 | jump @c | end",
		"jump @a | b: const 0 0 | end | c: const 0 1 | end | a: zero 0 @b @c | const 0 2 | jump @c")
}

// A register that some instruction reads, and one that none does, for each op that
// writes one.
func TestDropUnreadOfEachOp(t *testing.T) {
	t.Parallel()
	for _, line := range []string{"const 9 1", "move 9 0", "op 9 0 0 33", "op 9 0 0 35", "call 9 0 0 0 1", "call 9 0 0 0 10", "in 9 0", "in 9 999", "load 9 0 0", "load 9 0 999", "not 9 0", "neg 9 0"} {
		passMakes(t, "DropUnread", line+" | end", "end")
		passMakes(t, "DropUnread", "barrier | "+line+" | store 1 0 0 | jump 1", "barrier | store 1 0 0 | jump 1")
		for _, reader := range []string{"store 9 0 0", "store 0 9 0", "zero 9 0 0"} {
			passKeeps(t, "DropUnread", line+" | "+reader+" | end", reader+" | "+line+" | end", "jump @e | "+reader+" | "+line+" | e: end", "jump @e | "+line+" | e: "+reader+" | end")
		}
		// a reader that is read itself
		for _, reader := range []string{"move 8 9", "op 8 9 0 33", "op 8 0 9 33", "call 8 9 0 0 1", "call 8 0 9 0 29", "call 8 0 0 9 10", "call 8 9 0 0 10", "call 8 0 9 0 10", "load 8 9 0", "not 8 9", "neg 8 9"} {
			passKeeps(t, "DropUnread", line+" | "+reader+" | store 8 0 0 | end", reader+" | "+line+" | store 0 8 0 | end")
			passMakes(t, "DropUnread", line+" | "+reader+" | end", "end")
		}
		// all that write it
		passKeeps(t, "DropUnread", line+" | const 9 2 | "+line+" | store 9 0 0 | "+line+" | end")
		passMakes(t, "DropUnread", line+" | const 9 2 | store 0 0 0 | "+line+" | end", "store 0 0 0 | end")
	}
}

func TestDropUnreadKeepsWhatWritesNone(t *testing.T) {
	t.Parallel()
	passKeeps(t, "DropUnread",
		"end", "jump 0", "barrier | end", "store 0 0 0 | end", "store 3 4 999 | jump 0", "zero 5 0 0 | end", "zero 0 1 2 | end | end", "jump 1 | end",
		"jump 1 | jump 0", "end | end | end", "jump 2 | barrier | end | barrier | jump 4")
	// fields that an op names but does not read: those beyond a call's operands are 0
	passMakes(t, "DropUnread", "const 0 1 | call 2 1 0 0 1 | store 2 2 0 | end", "call 2 1 0 0 1 | store 2 2 0 | end")
	passMakes(t, "DropUnread", "const 0 1 | call 2 1 1 0 29 | store 2 2 0 | end", "call 2 1 1 0 29 | store 2 2 0 | end")
	// numbers are no registers
	passMakes(t, "DropUnread", "const 2 1 | zero 0 2 2 | end", "zero 0 1 1 | end")
	passMakes(t, "DropUnread", "const 1 1 | jump 1", "jump 0")
	passMakes(t, "DropUnread", "const 5 1 | load 4 3 5 | store 3 4 5 | end", "load 4 3 5 | store 3 4 5 | end")
	// the greatest register
	passMakes(t, "DropUnread", "const 399 1 | const 398 1 | store 398 398 0 | end", "const 398 1 | store 398 398 0 | end")
	passKeeps(t, "DropUnread", "const 399 1 | store 399 399 0 | end")
}

// An instruction that reads what it alone writes: some instruction reads it.
func TestDropUnreadOfItsOwnRegister(t *testing.T) {
	t.Parallel()
	passKeeps(t, "DropUnread", "op 9 9 9 33 | end", "op 9 9 0 33 | end", "op 9 0 9 33 | end", "call 9 9 0 0 1 | end", "call 9 0 0 9 10 | end", "load 9 9 0 | end", "not 9 9 | end", "neg 9 9 | end",
		"const 9 1 | not 9 9 | end", "not 8 9 | neg 9 8 | end", "const 7 1 | not 8 9 | op 9 8 7 33 | end")
	passMakes(t, "DropUnread", "not 9 9 | neg 8 9 | end", "not 9 9 | end")
}

func TestDropUnreadAgainAndAgain(t *testing.T) {
	t.Parallel()
	passMakes(t, "DropUnread", "const 1 1 | move 2 1 | not 3 2 | op 4 3 3 33 | end", "end")
	passMakes(t, "DropUnread", "op 4 3 3 33 | not 3 2 | move 2 1 | const 1 1 | end", "end")
	passMakes(t, "DropUnread", "const 1 1 | move 2 1 | not 3 2 | op 4 3 1 33 | store 2 2 0 | end", "const 1 1 | move 2 1 | store 2 2 0 | end")
	passMakes(t, "DropUnread", "const 1 1 | const 2 2 | load 3 1 0 | call 4 3 2 1 10 | in 5 0 | store 5 1 0 | end", "const 1 1 | in 5 0 | store 5 1 0 | end")
	long := instrs("in 0 0")
	for reg := 1; reg < 400; reg++ {
		long = append(long, impl.Instr{Op: impl.INot, D: reg, A: reg - 1})
	}
	passMakes(t, "DropUnread", wellEnded(long, "barrier | end"), "barrier | end")
	passKeeps(t, "DropUnread", wellEnded(long, "store 399 0 0 | end"))
	passMakes(t, "DropUnread", wellEnded(long, "store 200 0 0 | end"), wellEnded(long[:201], "store 200 0 0 | end"))
	slices.Reverse(long)
	passMakes(t, "DropUnread", wellEnded(long, "jump 3"), "jump 0")
}

// wellEnded: code by its lines with some lines behind it.
func wellEnded(l []impl.Instr, text string) string {
	return strings.TrimSuffix(toldCode(append(slices.Clone(l), impl.Instr{Op: impl.IEnd})), "end") + text
}

// An IMove of a register to itself reads it; it goes in any case, and what it alone
// read goes, too.
func TestDropUnreadOfIdleMoves(t *testing.T) {
	t.Parallel()
	passMakes(t, "DropUnread", "move 9 9 | end", "end")
	passMakes(t, "DropUnread", "move 0 0 | move 399 399 | end", "end")
	passMakes(t, "DropUnread", "move 9 9 | store 9 9 0 | end", "store 9 9 0 | end")
	passMakes(t, "DropUnread", "const 9 1 | move 9 9 | store 9 9 0 | end", "const 9 1 | store 9 9 0 | end")
	passMakes(t, "DropUnread", "const 9 1 | move 9 9 | end", "end")
	passMakes(t, "DropUnread", "const 9 1 | move 9 9 | move 9 9 | not 8 9 | end", "end")
	passMakes(t, "DropUnread", "in 7 0 | not 9 7 | store 3 3 0 | move 9 9 | end", "store 3 3 0 | end")
	passKeeps(t, "DropUnread", "move 9 8 | move 8 9 | end", "op 9 9 9 33 | end")
}

// Numbers by DropUnread: to one that stays, to one that is taken out with others
// behind it, in all three fields that tell one.
func TestNumbersOfWhatIsTakenOut(t *testing.T) {
	t.Parallel()
	passMakes(t, "DropUnread", "jump @a | a: const 1 1 | b: const 2 2 | c: barrier | d: end", "jump @c | c: barrier | d: end")
	passMakes(t, "DropUnread", "jump @b | a: const 1 1 | b: const 2 2 | c: barrier | d: end", "jump @c | c: barrier | d: end")
	passMakes(t, "DropUnread", "jump @c | a: const 1 1 | b: const 2 2 | c: barrier | d: end", "jump @c | c: barrier | d: end")
	passMakes(t, "DropUnread", "jump @d | a: const 1 1 | b: const 2 2 | c: barrier | d: end", "jump @d | c: barrier | d: end")
	passMakes(t, "DropUnread", "const 1 1 | z: const 2 2 | y: barrier | jump @z", "y: barrier | jump @y")
	for _, form := range []string{"zero 0 @1 @2", "zero 0 @2 @1"} {
		code := func(line, others string) string {
			return strings.NewReplacer("@1", "@"+others[:1], "@2", "@"+others[1:]).Replace("x: const 1 1 | y: barrier | " + line + " | a: const 1 1 | b: const 2 2 | c: store 0 0 0 | e: not 4 3 | d: end")
		}
		left := func(line, others string) string {
			return strings.NewReplacer("@1", "@"+others[:1], "@2", "@"+others[1:]).Replace("y: barrier | " + line + " | c: store 0 0 0 | d: end")
		}
		goes := map[byte]string{'x': "y", 'y': "y", 'a': "c", 'b': "c", 'c': "c", 'e': "d", 'd': "d"}
		for _, one := range "xyabced" {
			for _, other := range "xyabced" {
				passMakes(t, "DropUnread", code(form, string(one)+string(other)), left(form, goes[byte(one)]+goes[byte(other)]))
			}
		}
	}
	// the first one, the one right ahead of the last, every other one
	passMakes(t, "DropUnread", "a: const 1 1 | b: store 0 0 0 | zero 0 @b @a | jump @a", "b: store 0 0 0 | zero 0 @b @b | jump @b")
	passMakes(t, "DropUnread", "b: store 0 0 0 | zero 0 @c @d | c: const 1 1 | d: jump @c", "b: store 0 0 0 | zero 0 @d @d | d: jump @d")
	passMakes(t, "DropUnread", "a: in 1 1 | b: barrier | c: in 1 1 | d: jump @e | e: in 1 1 | f: zero 0 @g @a | g: in 1 1 | h: end", "b: barrier | d: jump @f | f: zero 0 @h @b | h: end")
	// fields that tell no number keep their values
	passMakes(t, "DropUnread", "const 1 1 | const 4 4 | op 5 4 4 33 | call 6 5 4 4 10 | load 7 6 7 | store 7 4 7 | zero 7 0 1 | end", "const 4 4 | op 5 4 4 33 | call 6 5 4 4 10 | load 7 6 7 | store 7 4 7 | zero 7 0 0 | end")
	// of 600 all but two
	passMakes(t, "DropUnread", "jump 300 | "+strings.Repeat("in 1 0 | ", 598)+"jump 599", "jump 1 | jump 1")
	passMakes(t, "DropUnread", strings.Repeat("in 1 0 | ", 599)+"jump 0", "jump 0")
}
