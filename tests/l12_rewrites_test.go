package tests

import (
	"math"
	"slices"
	"strconv"
	"strings"
	"testing"

	"loop.example/g00053/impl"
)

// What FoldConsts, FollowMoves, ShortJumps and Improve make of code, written out.

// seams: code in which `%` stands ahead of a place that begins a block and `#` at
// that place.
var seams = map[string]string{
	"a jump back":         "% | a: # | store 2 2 0 | jump @a",
	"a jump ahead":        "zero 0 @j @e | % | a: # | store 2 2 0 | end | j: jump @a | e: end",
	"a jump unreached":    "% | a: # | store 2 2 0 | end | jump @a",
	"B of a zero":         "zero 0 @a @e | % | a: # | store 2 2 0 | e: end",
	"B of a zero behind":  "% | a: # | store 2 2 0 | zero 0 @a @e | e: end",
	"C of a zero":         "zero 0 @e @a | % | a: # | store 2 2 0 | e: end",
	"C of a zero behind":  "% | a: # | store 2 2 0 | zero 0 @e @a | e: end",
	"right behind a jump": "% | jump @e | # | store 2 2 0 | e: end",
	"right behind a zero": "% | zero 0 @e @e | # | store 2 2 0 | e: end",
	"right behind an end": "% | end | # | store 2 2 0 | end",
	"behind a barrier":    "% | barrier | # | store 2 2 0 | end",
}

// noSeams: none of these places begins a block.
var noSeams = []string{
	"% | # | store 2 2 0 | end",
	"end | % | # | store 2 2 0 | end",
	"% | store 2 2 2 | # | load 2 2 2 | store 2 2 0 | end",
	"% | op 3 2 2 33 | # | store 3 2 0 | end",
	"% | call 4 2 2 2 10 | # | store 4 2 0 | end",
	"% | in 2 1 | # | store 2 2 0 | end",
	"% | # | zero 1 @a @b | a: store 2 2 0 | b: end",
	"barrier | jump @a | a: % | # | store 2 2 0 | end",
	"zero 0 @a @b | a: % | # | b: store 2 2 0 | jump @a",
}

// filled: code with what stands ahead and at the place.
func filled(form, ahead, at string) string {
	return strings.NewReplacer("%", ahead, "#", at).Replace(form)
}

func TestWhereBlocksBegin(t *testing.T) {
	t.Parallel()
	for name, form := range seams {
		passKeeps(t, "FoldConsts", filled(form, "const 1 5", "not 2 1"))
		passKeeps(t, "FollowMoves", filled(form, "move 1 5", "not 2 1"))
		// one further on both are in one block
		at := filled(form, "in 1 1", "const 1 5 | not 2 1")
		passMakes(t, "FoldConsts", at, strings.Replace(at, "not 2 1", "const 2 0", 1))
		at = filled(form, "in 1 1", "move 1 5 | not 2 1")
		passMakes(t, "FollowMoves", at, strings.Replace(at, "not 2 1", "not 2 5", 1))
		if t.Failed() {
			t.Fatal(name)
		}
	}
	for _, form := range noSeams {
		at := filled(form, "const 1 5", "not 2 1")
		got, _ := impl.FoldConsts(instrs(linked(at)))
		if !slices.Contains(got, instrs("const 2 0")[0]) {
			t.Errorf("FoldConsts of %s: %s", at, toldCode(got))
		}
		at = filled(form, "move 1 5", "not 2 1")
		got, _ = impl.FollowMoves(instrs(linked(at)))
		if !slices.Contains(got, instrs("not 2 5")[0]) {
			t.Errorf("FollowMoves of %s: %s", at, toldCode(got))
		}
		heldPasses(t, instrs(linked(at)))
	}
	// at the beginning no register is known, though all are 0 there
	passKeeps(t, "FoldConsts", "not 2 1 | store 2 2 0 | end", "zero 0 1 1 | end", "move 1 0 | end")
}

// foldedTo: what an instruction becomes with constants in some registers.
func foldedTo(t *testing.T, i impl.Instr, known map[int]uint32, want impl.Instr) {
	t.Helper()
	var l []impl.Instr
	for _, reg := range upTo(8) {
		if word, ok := known[reg]; ok {
			l = append(l, impl.Instr{Op: impl.IConst, D: reg, Word: word})
		}
	}
	l = append(l, i, impl.Instr{Op: impl.IEnd})
	got, ok := impl.FoldConsts(l)
	if !ok || len(got) != len(l) || got[len(l)-2] != want || !slices.Equal(got[:len(l)-2], l[:len(l)-2]) {
		t.Errorf("FoldConsts of %v: %v, want %v", l, got, want)
	}
}

// foldedAtAll: with each choice of its registers known; the word that it makes where
// all are.
func foldedAtAll(t *testing.T, i impl.Instr, words []uint32) {
	t.Helper()
	regs := wantReads(i)
	for choice := range 1 << len(regs) {
		known, want := map[int]uint32{}, i
		for n, reg := range regs {
			if choice>>n&1 == 1 {
				known[reg] = words[n]
			}
		}
		if len(known) == len(regs) {
			var read []uint32
			for _, reg := range wantRead(i) {
				read = append(read, known[reg])
			}
			want = impl.Instr{Op: impl.IConst, D: i.D, Word: (&stroll{}).made(nil, i, read)}
		}
		foldedTo(t, i, known, want)
	}
}

var edgeWords = []uint32{0, 1, 2, 3, 31, 32, 33, math.MaxUint32, math.MaxUint32 - 6, 1 << 31, 1<<31 - 1, 1<<31 + 1, impl.TheNaN, 0x7f800001, 0xffc00000, 0x7f800000, 0xff800000, 0x7f7fffff, 0xff7fffff, 0x3f800000, 0xbf800000, 0x00800000, 0x40490fdb}

func TestFoldsEverySign(t *testing.T) {
	t.Parallel()
	for _, sign := range betweenSigns {
		for kind := 1; kind <= 3; kind++ {
			word := uint32(slices.Index(wantSigns, sign)*4 + kind)
			for n, a := range edgeWords {
				for m, b := range edgeWords {
					i := impl.Instr{Op: impl.IOp, D: 5, A: 1, B: 2, Word: word}
					foldedTo(t, i, map[int]uint32{1: a, 2: b}, impl.Instr{Op: impl.IConst, D: 5, Word: wantOp(sign, kind, a, b)})
					if n == m {
						foldedAtAll(t, i, []uint32{a, b})
						foldedAtAll(t, impl.Instr{Op: impl.IOp, D: 1, A: 2, B: 1, Word: word}, []uint32{a, b})
						foldedAtAll(t, impl.Instr{Op: impl.IOp, D: 3, A: 3, B: 3, Word: word}, []uint32{a})
					}
				}
			}
		}
	}
}

func TestFoldsEveryCall(t *testing.T) {
	t.Parallel()
	done := map[int]int{}
	for number, call := range wantCalls {
		arity := wantArity[call]
		for kind := 1; kind <= 2 && arity > 0; kind++ {
			i := impl.Instr{Op: impl.ICall, D: 6, Word: uint32(number*4 + kind)}
			for n := range arity {
				i = withField(i, fieldNames[1+n], 1+n)
			}
			for n, a := range edgeWords {
				for m, b := range edgeWords {
					done[arity]++
					foldedAtAll(t, i, []uint32{a, b, edgeWords[(n+m)%len(edgeWords)]})
				}
			}
			twice := i
			twice.A, twice.D = arity, arity
			foldedAtAll(t, twice, []uint32{0x3f800000, 0x40000000, 0x40400000})
		}
	}
	if done[1] == 0 || done[2] == 0 || done[3] == 0 {
		t.Errorf("calls by their operands: %v", done)
	}
}

func TestFoldsMovesNotsAndNegs(t *testing.T) {
	t.Parallel()
	for _, word := range append(slices.Clone(edgeWords), 0xffffffff) {
		for _, op := range []int{impl.IMove, impl.INot, impl.INeg} {
			foldedAtAll(t, impl.Instr{Op: op, D: 5, A: 1}, []uint32{word})
			foldedAtAll(t, impl.Instr{Op: op, D: 1, A: 1}, []uint32{word})
		}
	}
	for words, made := range map[[2]uint32]string{{impl.INot, 0}: "1", {impl.INot, 1}: "0", {impl.INot, 7}: "0", {impl.INot, 8}: "1", {impl.IMove, 9}: "9", {impl.INeg, 0}: "2147483648", {impl.INeg, 0xffc00001}: "2143289344", {impl.INeg, 0xbf800000}: "1065353216"} {
		line := ops[words[0]].name
		passMakes(t, "FoldConsts", "const 1 "+strconv.Itoa(int(words[1]))+" | "+line+" 2 1 | end", "const 1 "+strconv.Itoa(int(words[1]))+" | const 2 "+made+" | end")
	}
	// by 0, and the least whole number by -1
	passMakes(t, "FoldConsts", "const 1 7 | const 2 0 | op 3 1 2 49 | op 4 1 2 9 | end", "const 1 7 | const 2 0 | const 3 0 | const 4 0 | end")
	passMakes(t, "FoldConsts", "const 1 2147483648 | const 2 4294967295 | op 3 1 2 49 | op 4 1 2 9 | end", "const 1 2147483648 | const 2 4294967295 | const 3 2147483648 | const 4 0 | end")
	passMakes(t, "FoldConsts", "const 1 1065353216 | const 2 0 | op 3 1 2 50 | op 4 2 2 50 | end", "const 1 1065353216 | const 2 0 | const 3 2139095040 | const 4 2143289344 | end")
}

// What becomes known, and what is known no longer.
func TestWhatIsKnown(t *testing.T) {
	t.Parallel()
	passMakes(t, "FoldConsts", "const 1 5 | move 2 1 | move 3 2 | op 4 3 1 33 | not 5 4 | end", "const 1 5 | const 2 5 | const 3 5 | const 4 10 | const 5 1 | end")
	passMakes(t, "FoldConsts", "const 1 5 | const 1 6 | move 2 1 | end", "const 1 5 | const 1 6 | const 2 6 | end")
	passMakes(t, "FoldConsts", "const 1 5 | move 2 1 | const 1 6 | move 3 1 | op 4 2 3 33 | end", "const 1 5 | const 2 5 | const 1 6 | const 3 6 | const 4 11 | end")
	passMakes(t, "FoldConsts", "const 1 5 | not 1 1 | not 1 1 | neg 1 1 | move 2 1 | end", "const 1 5 | const 1 0 | const 1 1 | const 1 2147483649 | const 2 2147483649 | end")
	passMakes(t, "FoldConsts", "const 1 5 | move 1 1 | move 2 1 | end", "const 1 5 | const 1 5 | const 2 5 | end")
	passMakes(t, "FoldConsts", "const 0 0 | move 399 0 | neg 398 399 | end", "const 0 0 | const 399 0 | const 398 2147483648 | end")
	for _, line := range []string{"move 1 0", "op 1 0 0 33", "op 1 1 0 33", "op 1 0 1 33", "call 1 0 0 0 1", "call 1 1 0 0 29", "call 1 1 1 0 10", "call 1 0 1 1 10", "in 1 0", "in 1 4", "load 1 0 0", "load 1 1 0", "load 1 1 999", "not 1 0", "neg 1 0"} {
		passKeeps(t, "FoldConsts", "const 1 5 | "+line+" | move 2 1 | not 3 2 | end", "const 1 5 | "+line+" | "+line+" | zero 1 0 0 | end")
		passMakes(t, "FoldConsts", "const 1 5 | const 2 7 | "+line+" | move 3 2 | const 1 6 | move 4 1 | end", "const 1 5 | const 2 7 | "+line+" | const 3 7 | const 1 6 | const 4 6 | end")
	}
	// what writes no register
	for _, line := range []string{"store 1 1 0", "store 1 2 1", "store 0 1 0"} {
		passMakes(t, "FoldConsts", "const 1 5 | "+line+" | move 2 1 | end", "const 1 5 | "+line+" | const 2 5 | end")
	}
	passKeeps(t, "FoldConsts", "const 1 1 | load 2 1 0 | store 1 2 0 | in 3 1 | end", "end", "jump 0", "const 1 5 | end", "op 3 1 2 33 | const 1 1 | const 2 2 | end")
	// a call's fields beyond its operands are no registers that it reads
	passMakes(t, "FoldConsts", "const 1 5 | call 2 1 0 0 1 | call 3 1 1 0 25 | end", "const 1 5 | const 2 5 | const 3 5 | end")
}

func TestZerosOfWhatIsKnown(t *testing.T) {
	t.Parallel()
	code := "const 1 # | zero 1 @b @c | store 0 0 0 | b: store 1 1 1 | c: end"
	passMakes(t, "FoldConsts", strings.Replace(code, "#", "0", 1), "const 1 0 | jump @b | store 0 0 0 | b: store 1 1 1 | c: end")
	for _, word := range []string{"1", "2", "2147483648", "4294967295", "1065353216"} {
		passKeeps(t, "FoldConsts", strings.Replace(code, "#", word, 1))
	}
	passKeeps(t, "FoldConsts", "const 2 0 | zero 1 @b @c | store 0 0 0 | b: store 1 1 1 | c: end", "const 1 0 | in 1 0 | zero 1 @b @c | store 0 0 0 | b: store 1 1 1 | c: end", "const 1 0 | barrier | zero 1 @b @c | store 0 0 0 | b: store 1 1 1 | c: end", "zero 1 1 1 | end")
	passMakes(t, "FoldConsts", "const 1 5 | op 2 1 1 41 | zero 2 @c @b | barrier | b: barrier | c: end", "const 1 5 | const 2 0 | jump @c | barrier | b: barrier | c: end")
	passMakes(t, "FoldConsts", "a: const 1 0 | zero 1 @a @e | e: end", "a: const 1 0 | jump @a | e: end")
	passMakes(t, "FoldConsts", "const 1 0 | a: const 1 0 | zero 1 @a @a | jump @a", "const 1 0 | a: const 1 0 | jump @a | jump @a")
	passKeeps(t, "FoldConsts", "const 1 0 | a: zero 1 @a @e | e: end")
	// blocks are those of the code ahead of the pass: C begins one still, and so does what stands behind
	passMakes(t, "FoldConsts", "const 1 0 | zero 1 @b @c | const 2 5 | c: not 3 2 | b: end", "const 1 0 | jump @b | const 2 5 | c: not 3 2 | b: end")
	passMakes(t, "FoldConsts", "const 1 0 | zero 1 @b @b | not 3 1 | b: not 4 1 | end", "const 1 0 | jump @b | not 3 1 | b: not 4 1 | end")
}

// Each field of each op that reads a register.
func TestFollowsMovesInEachField(t *testing.T) {
	t.Parallel()
	for line, want := range map[string]string{
		"move 2 9":        "move 2 8",
		"op 2 9 3 33":     "op 2 8 3 33",
		"op 2 3 9 33":     "op 2 3 8 33",
		"op 2 9 9 33":     "op 2 8 8 33",
		"call 2 9 0 0 1":  "call 2 8 0 0 1",
		"call 2 9 3 0 29": "call 2 8 3 0 29",
		"call 2 3 9 0 29": "call 2 3 8 0 29",
		"call 2 9 3 4 10": "call 2 8 3 4 10",
		"call 2 3 9 4 10": "call 2 3 8 4 10",
		"call 2 3 4 9 10": "call 2 3 4 8 10",
		"call 2 9 9 9 10": "call 2 8 8 8 10",
		"load 2 9 9":      "load 2 8 9",
		"store 9 3 9":     "store 8 3 9",
		"store 3 9 9":     "store 3 8 9",
		"store 9 9 0":     "store 8 8 0",
		"zero 9 0 0":      "zero 8 0 0",
		"not 2 9":         "not 2 8",
		"neg 2 9":         "neg 2 8",
		"const 2 9":       "const 2 9",
		"in 2 9":          "in 2 9",
		"move 9 9":        "move 9 8",
		"not 9 9":         "not 9 8",
		"op 9 9 9 33":     "op 9 8 8 33",
		"call 9 9 9 9 10": "call 9 8 8 8 10",
		"load 9 9 0":      "load 9 8 0",
		"not 8 9":         "not 8 8",
		"move 8 9":        "move 8 8",
		"op 8 8 9 33":     "op 8 8 8 33",
		"barrier":         "barrier",
		"end":             "end",
		"not 2 8":         "not 2 8",
		"store 398 399 9": "store 398 399 9",
		"call 9 3 9 0 29": "call 9 3 8 0 29",
		"const 9 9":       "const 9 9",
		"load 2 3 9":      "load 2 3 9",
		"op 2 3 4 33":     "op 2 3 4 33",
		"store 2 3 9":     "store 2 3 9",
		"zero 3 0 0":      "zero 3 0 0",
		"neg 399 9":       "neg 399 8",
		"move 399 398":    "move 399 398",
	} {
		passMakes(t, "FollowMoves", "move 9 8 | "+line+" | end", "move 9 8 | "+want+" | end")
	}
	// numbers, and fields that are not read, are no registers
	passMakes(t, "FollowMoves", "move 2 8 | zero 2 2 2 | end", "move 2 8 | zero 8 2 2 | end")
	passKeeps(t, "FollowMoves", "move 1 8 | jump 1", "move 0 8 | call 3 9 0 0 1 | end", "move 0 8 | call 3 9 9 0 29 | end", "move 0 8 | zero 9 0 0 | end")
	passMakes(t, "FollowMoves", "move 0 8 | call 0 0 0 0 1 | end", "move 0 8 | call 0 8 0 0 1 | end")
	passMakes(t, "FollowMoves", "move 0 399 | store 0 0 0 | end", "move 0 399 | store 399 399 0 | end")
	passMakes(t, "FollowMoves", "move 399 0 | store 399 399 0 | end", "move 399 0 | store 0 0 0 | end")
}

// Up to the next instruction that writes one of the two.
func TestHowFarMovesAreFollowed(t *testing.T) {
	t.Parallel()
	for _, line := range []string{"const # 1", "move # 3", "op # 3 3 33", "call # 3 0 0 1", "in # 0", "load # 3 0", "not # 3", "neg # 3"} {
		for _, reg := range []string{"9", "8"} {
			write := strings.Replace(line, "#", reg, 1)
			got, _ := impl.FollowMoves(instrs("move 9 8 | store 9 9 0 | " + write + " | store 9 9 0 | end"))
			want := "store 9 9 0"
			if write == "move 9 3" {
				want = "store 3 3 0"
			}
			if told := toldCode(got); told != "move 9 8 | store 8 8 0 | "+write+" | "+want+" | end" {
				t.Errorf("with %s: %s", write, told)
			}
		}
		write := strings.Replace(line, "#", "7", 1)
		passMakes(t, "FollowMoves", "move 9 8 | "+write+" | store 9 9 0 | end", "move 9 8 | "+write+" | store 8 8 0 | end")
	}
	// to what stands ahead nothing is done
	passKeeps(t, "FollowMoves", "store 9 9 0 | move 9 8 | end", "a: store 9 9 0 | move 9 8 | jump @a", "end", "jump 0", "move 9 8 | end")
	// one that reads and writes
	passMakes(t, "FollowMoves", "move 9 8 | op 9 9 9 33 | store 9 8 0 | end", "move 9 8 | op 9 8 8 33 | store 9 8 0 | end")
	passMakes(t, "FollowMoves", "move 9 8 | op 8 9 8 33 | store 9 8 0 | end", "move 9 8 | op 8 8 8 33 | store 9 8 0 | end")
	passMakes(t, "FollowMoves", "move 9 8 | load 9 9 0 | load 9 9 0 | end", "move 9 8 | load 9 8 0 | load 9 9 0 | end")
}

func TestMovesOfMoves(t *testing.T) {
	t.Parallel()
	passMakes(t, "FollowMoves", "move 2 1 | move 3 2 | move 4 3 | store 4 3 0 | store 2 1 0 | end", "move 2 1 | move 3 1 | move 4 1 | store 1 1 0 | store 1 1 0 | end")
	passMakes(t, "FollowMoves", "move 2 1 | move 3 2 | const 2 5 | store 3 2 0 | end", "move 2 1 | move 3 1 | const 2 5 | store 1 2 0 | end")
	passMakes(t, "FollowMoves", "move 2 1 | move 3 2 | const 1 5 | store 3 2 0 | end", "move 2 1 | move 3 1 | const 1 5 | store 3 2 0 | end")
	passMakes(t, "FollowMoves", "move 2 1 | move 3 2 | const 3 5 | store 3 2 0 | end", "move 2 1 | move 3 1 | const 3 5 | store 3 1 0 | end")
	passMakes(t, "FollowMoves", "move 2 1 | move 3 1 | store 2 3 0 | const 1 5 | store 2 3 0 | end", "move 2 1 | move 3 1 | store 1 1 0 | const 1 5 | store 2 3 0 | end")
	passMakes(t, "FollowMoves", "move 2 1 | move 2 3 | store 2 1 0 | end", "move 2 1 | move 2 3 | store 3 1 0 | end")
	passMakes(t, "FollowMoves", "move 2 1 | const 2 1 | move 3 2 | store 3 2 0 | end", "move 2 1 | const 2 1 | move 3 2 | store 2 2 0 | end")
	// two that change their words by a third one
	passMakes(t, "FollowMoves", "move 3 1 | move 1 2 | move 2 3 | store 1 2 0 | end", "move 3 1 | move 1 2 | move 2 3 | store 1 3 0 | end")
	// across a block each for itself
	passMakes(t, "FollowMoves", "move 2 1 | barrier | move 3 2 | store 3 2 0 | end", "move 2 1 | barrier | move 3 2 | store 2 2 0 | end")
}

// One of a register to itself is none to follow, but it writes the register.
func TestMovesToThemselves(t *testing.T) {
	t.Parallel()
	passKeeps(t, "FollowMoves", "move 8 8 | store 8 8 0 | end", "move 8 8 | move 8 8 | not 7 8 | end")
	passKeeps(t, "FollowMoves", "move 9 8 | move 8 8 | store 9 8 0 | end")
	passMakes(t, "FollowMoves", "move 9 8 | move 9 9 | store 9 8 0 | end", "move 9 8 | move 9 8 | store 8 8 0 | end")
	passMakes(t, "FollowMoves", "move 9 8 | move 8 9 | store 9 8 0 | end", "move 9 8 | move 8 8 | store 9 8 0 | end")
	passMakes(t, "FollowMoves", "move 9 8 | move 9 8 | store 9 8 0 | end", "move 9 8 | move 9 8 | store 8 8 0 | end")
}

func TestJumpsToJumps(t *testing.T) {
	t.Parallel()
	passMakes(t, "ShortJumps", "jump @a | barrier | a: jump @b | barrier | b: end", "jump @b | barrier | a: jump @b | barrier | b: end")
	passMakes(t, "ShortJumps", "jump @a | barrier | b: jump @c | barrier | a: jump @b | barrier | c: barrier | jump @a", "jump @c | barrier | b: jump @c | barrier | a: jump @c | barrier | c: barrier | jump @c")
	passMakes(t, "ShortJumps", "barrier | jump @a | barrier | a: jump 0", "barrier | jump 0 | barrier | a: jump 0")
	passMakes(t, "ShortJumps", "jump @a | b: end | barrier | a: jump @b", "b: end | barrier | a: jump @b")
	// the B of an IZero, not its C
	passMakes(t, "ShortJumps", "zero 0 @a @c | barrier | a: jump @b | c: barrier | b: end", "zero 0 @b @c | barrier | a: jump @b | c: barrier | b: end")
	passMakes(t, "ShortJumps", "zero 0 @b @a | barrier | a: jump @b | c: barrier | b: end", "zero 0 @b @a | barrier | a: jump @b | c: barrier | b: end")
	passMakes(t, "ShortJumps", "zero 0 @a @a | barrier | a: jump @d | c: barrier | d: jump @b | barrier | b: end", "zero 0 @b @a | barrier | a: jump @b | c: barrier | d: jump @b | barrier | b: end")
	passMakes(t, "ShortJumps", "b: barrier | d: jump @b | a: jump @d | zero 0 @a @a | jump @b", "b: barrier | d: jump @b | a: jump @b | zero 0 @b @a | jump @b")
	// what is no jump is gone to, an IZero to the one right behind it stays
	passKeeps(t, "ShortJumps", "end", "zero 0 1 1 | end", "jump @a | barrier | a: zero 0 @b @b | b: end", "jump @a | barrier | a: end", "zero 0 @a @b | b: barrier | a: zero 0 0 0 | end")
}

// Jumps that go round are done from the first one on, each by those ahead of it as
// they are then.
func TestJumpsThatGoRound(t *testing.T) {
	t.Parallel()
	passKeeps(t, "ShortJumps", "jump 0", "jump 0 | end", "barrier | jump 1", "jump @a | barrier | a: jump @a", "zero 0 @a @a | barrier | a: jump @a", "jump 0 | jump 1 | jump 2")
	passMakes(t, "ShortJumps", "jump 1 | jump 0", "jump 0 | jump 0")
	passMakes(t, "ShortJumps", "jump 1 | jump 0 | end", "jump 0 | jump 0 | end")
	passMakes(t, "ShortJumps", "jump 1 | jump 2 | jump 0", "jump 0 | jump 0 | jump 0")
	passMakes(t, "ShortJumps", "barrier | jump 3 | jump 1 | jump 2", "barrier | jump 1 | jump 1 | jump 1")
	// from without as often as there are instructions, of which there are 5, and 6
	passMakes(t, "ShortJumps", "jump 1 | jump 2 | jump 1 | end | end", "jump 2 | jump 1 | jump 1 | end | end")
	passMakes(t, "ShortJumps", "jump 1 | jump 2 | jump 1 | end | end | end", "jump 0 | jump 0 | end | end | end")
	passMakes(t, "ShortJumps", "zero 0 2 3 | end | jump 3 | jump 2 | end", "zero 0 3 3 | end | jump 2 | jump 2 | end")
	passMakes(t, "ShortJumps", "zero 0 2 3 | end | jump 3 | jump 2 | end | end", "zero 0 2 3 | end | jump 2 | jump 2 | end | end")
	passMakes(t, "ShortJumps", "jump 2 | jump 0 | zero 0 0 1 | end", "zero 0 0 0 | end")
	passMakes(t, "ShortJumps", "jump 1 | jump 0 | zero 0 1 1 | end", "jump 0 | jump 0 | zero 0 0 1 | end")
}

// As many jumps in a row as there can be, in either direction.
func TestLongRowsOfJumps(t *testing.T) {
	t.Parallel()
	var ahead, back []impl.Instr
	for at := range 599 {
		ahead = append(ahead, impl.Instr{Op: impl.IJump, A: at + 1})
		back = append(back, impl.Instr{Op: impl.IJump, A: max(0, at-1)})
	}
	passGives(t, "ShortJumps", wellEnded(ahead, "end"), "end")
	passGives(t, "ShortJumps", wellEnded(ahead, "jump 599"), "jump 0")
	back[0] = impl.Instr{Op: impl.IEnd}
	passGives(t, "ShortJumps", wellEnded(back, "jump 598"), "end | "+strings.TrimSuffix(strings.Repeat("jump 0 | ", 599), " | "))
	for at := range 598 { // two rows: over one another
		ahead[at].A = at + 2
	}
	passGives(t, "ShortJumps", wellEnded(ahead, "end"), "end")
}

func TestJumpsRightBehind(t *testing.T) {
	t.Parallel()
	passMakes(t, "ShortJumps", "jump 1 | end", "end")
	passMakes(t, "ShortJumps", "barrier | jump 2 | end", "barrier | end")
	passMakes(t, "ShortJumps", "jump 1 | barrier | jump 3 | store 0 0 0 | jump 5 | end", "barrier | store 0 0 0 | end")
	passMakes(t, "ShortJumps", "barrier | jump @a | a: jump 0", "barrier | jump 0 | jump 0")
	passMakes(t, "ShortJumps", "jump 1 | jump 1", "jump 0")
	passMakes(t, "ShortJumps", "barrier | jump 2 | jump 2", "barrier | jump 1")
	// from the last one to the first: the last one brings the others right ahead of the end
	passMakes(t, "ShortJumps", "jump 2 | jump 2 | end", "end")
	passMakes(t, "ShortJumps", "jump 3 | jump 3 | jump 3 | end", "end")
	passMakes(t, "ShortJumps", "jump 3 | barrier | jump 3 | end", "jump 2 | barrier | end")
	passMakes(t, "ShortJumps", "jump 1 | jump 2 | jump 3 | end", "end")
	// numbers of those that stay: to one that is taken out, ahead of it, behind it
	passMakes(t, "ShortJumps", "a: barrier | b: jump @c | c: barrier | zero 0 @a @b | zero 0 @c @b | zero 0 @d @a | jump @a | d: end", "a: barrier | c: barrier | zero 0 @a @c | zero 0 @c @c | zero 0 @d @a | jump @a | d: end")
	passMakes(t, "ShortJumps", "zero 0 @b @a | barrier | a: jump @b | b: end", "zero 0 @b @b | barrier | b: end")
	passMakes(t, "ShortJumps", "zero 0 @b @a | barrier | a: jump @c | barrier | b: jump @c | c: store 0 0 0 | jump @a", "zero 0 @c @a | barrier | a: jump @c | barrier | c: store 0 0 0 | jump @c")
	passMakes(t, "ShortJumps", "a: jump @b | b: zero 0 @a @a | end", "b: zero 0 @b @b | end")
	// what is unreached, and what is right ahead, stays
	passKeeps(t, "ShortJumps", "barrier | jump 0", "end | barrier | jump 1", "jump @a | barrier | a: barrier | end")
	passMakes(t, "ShortJumps", "end | jump @e | e: end", "end | end")
}

// Of one pass after the other, each because of the one ahead.
func TestImproveByTurns(t *testing.T) {
	t.Parallel()
	passKeeps(t, "Improve", "end", "jump 0", "barrier | end", "in 0 0 | store 0 0 0 | end", "in 0 0 | a: zero 0 @e @e | load 0 0 0 | jump @a | e: end", "const 0 1 | store 0 0 0 | end", "const 0 1 | zero 0 @e @e | store 0 0 0 | e: end")
	passMakes(t, "Improve", "const 0 2 | move 1 0 | const 2 3 | op 3 1 2 29 | move 4 3 | const 5 6 | op 6 4 5 77 | zero 6 @e @e | const 7 0 | store 7 4 0 | e: end",
		"const 4 6 | const 6 1 | zero 6 @e @e | const 7 0 | store 7 4 0 | e: end")
	// FoldConsts makes a jump, ShortJumps takes it on, DropUnreached the rest
	passMakes(t, "Improve", "const 0 0 | zero 0 @a @b | store 0 0 0 | b: end | a: jump @c | barrier | c: store 1 1 1 | end", "store 1 1 1 | end")
	// FollowMoves leaves moves that nothing reads to DropUnread
	passMakes(t, "Improve", "in 0 0 | move 1 0 | move 2 1 | load 3 2 0 | store 1 3 0 | end", "in 0 0 | load 3 0 0 | store 0 3 0 | end")
	// DropUnread takes a move to itself away that FollowMoves made
	passMakes(t, "Improve", "in 0 0 | move 1 0 | move 0 1 | store 1 0 0 | end", "in 0 0 | store 0 0 0 | end")
	// DropUnreached takes away what alone read something, and what alone began a block
	passMakes(t, "Improve", "const 0 1 | jump @e | store 0 0 0 | e: end", "end")
	passMakes(t, "Improve", "const 0 1 | const 1 2 | a: op 2 0 1 33 | store 2 2 0 | end | jump @a", "const 2 3 | store 2 2 0 | end")
	// ShortJumps joins two blocks, so that more is known and more is followed
	passMakes(t, "Improve", "const 0 1 | jump @a | a: not 1 0 | store 1 1 0 | end", "const 1 0 | store 1 1 0 | end")
	passMakes(t, "Improve", "in 0 0 | move 1 0 | jump @a | a: store 1 1 0 | end", "in 0 0 | store 0 0 0 | end")
	// C alone still begins a block where lanes come together
	passKeeps(t, "Improve", "in 0 0 | const 1 5 | zero 0 @e @e | load 0 0 0 | e: op 2 0 1 33 | store 2 2 0 | end")
}

// falseChoices: code of choices that are never taken, each of which is known as such
// only when the one ahead is gone.
func falseChoices(count int) string {
	text := "const 0 0 | "
	for n := range count {
		mark := "m" + strconv.Itoa(n)
		text += "zero 0 @" + mark + " @" + mark + " | store " + strconv.Itoa(1+n) + " 0 0 | " + mark + ": "
	}
	return text + "end"
}

// Each choice takes two rounds: one in which it becomes a jump and what it jumps over
// goes, one in which the jump goes.
func TestImproveTenTimes(t *testing.T) {
	t.Parallel()
	for count := range 6 {
		passMakes(t, "Improve", falseChoices(count), "end")
	}
	// in the eleventh round the sixth one would become a jump
	passMakes(t, "Improve", falseChoices(6), "const 0 0 | zero 0 @e @e | store 6 0 0 | e: end")
	passMakes(t, "Improve", falseChoices(7), "const 0 0 | zero 0 @m @m | store 6 0 0 | m: zero 0 @e @e | store 7 0 0 | e: end")
	// with a jump ahead the fifth one becomes a jump in the tenth round, and what it jumps over goes, then what that alone read
	passMakes(t, "Improve", "in 5 0 | const 0 0 | jump @a | a: "+strings.TrimPrefix(falseChoices(5), "const 0 0 | "), "jump @e | e: end")
	for count := range 60 {
		l := instrs(linked(falseChoices(count)))
		for round := range 13 {
			rest := max(0, count-5*round)
			want := 2*rest + 1
			if rest > 0 || round == 0 {
				want++
			}
			if len(l) != want {
				t.Errorf("of %d choices, improved %d times, %d are left", count, round, len(l))
			}
			l, _ = impl.Improve(l)
		}
	}
}

// Improved again it is as short, and the same where ten rounds were enough.
func TestImprovedAgain(t *testing.T) {
	t.Parallel()
	c := newChance(223)
	enough, most := 0, 0
	for n := range 4000 {
		l := c.someCode(n)
		if n%10 == 0 {
			l, _ = impl.CompileKernel(c.someKernel(n / 10))
		}
		once, _ := impl.Improve(l)
		again, ok := impl.Improve(once)
		if !ok || len(again) != len(once) {
			t.Errorf("%s improved is %s, and again %s", toldCode(l), toldCode(once), toldCode(again))
		}
		rounds := len(wantRounds(l, 11)) - 1
		most = max(most, rounds)
		if rounds > 10 {
			continue
		}
		enough++
		for _, p := range allPasses() {
			if again, ok := p.of(once); !ok || !slices.Equal(again, once) {
				t.Errorf("%s improved is %s, by %s %s", toldCode(l), toldCode(once), p.name, toldCode(again))
			}
		}
	}
	if enough < 3950 || most < 5 {
		t.Errorf("for %d ten rounds are enough, %d at most", enough, most)
	}
}
