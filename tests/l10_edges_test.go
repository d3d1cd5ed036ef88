package tests

import (
	"math"
	"slices"
	"strconv"
	"strings"
	"testing"

	"loop.example/g00053/impl"
)

// The edges that chapter 10 names, with what is told written out.

// instrs: code by its lines, with `|` or a byte 10 between each two; its numbers
// may be any.
func instrs(text string) []impl.Instr {
	var l []impl.Instr
	for _, line := range strings.FieldsFunc(text, func(r rune) bool { return r == '|' || r == '\n' }) {
		words := strings.Fields(line)
		op := opNamed(words[0])
		if op < 1 || len(words)-1 != len(ops[op].fields) {
			panic(line)
		}
		i := impl.Instr{Op: op}
		for n, field := range ops[op].fields {
			value, err := strconv.Atoi(words[n+1])
			if err != nil {
				panic(line)
			}
			i = withField(i, field, value)
		}
		l = append(l, i)
	}
	return l
}

// isGood: whether code is good; the others of chapter 10 tell so, too.
func isGood(t *testing.T, l []impl.Instr, want bool) {
	t.Helper()
	if got := impl.GoodCode(l); got != want {
		t.Errorf("GoodCode(%v) = %v", l, got)
	}
	if text, ok := impl.CodeText(l); ok != want || (text != "") != want {
		t.Errorf("CodeText(%v) = %q, %v", l, text, ok)
	}
	if data, ok := impl.EncodeCode(l); ok != want || (len(data) > 0) != want {
		t.Errorf("EncodeCode(%v) = %v, %v", l, data, ok)
	}
	if !want && impl.RegsOf(l) != 0 {
		t.Errorf("RegsOf(%v) = %d", l, impl.RegsOf(l))
	}
	if got := impl.RunCode(l, launchOf(0)); (got.Code != impl.RunBad) != want {
		t.Errorf("RunCode(%v) = %v", l, got)
	}
	heldCode(t, l)
}

// goodAhead: whether an instruction is good ahead of so many others; the last
// one is IEnd.
func goodAhead(t *testing.T, i impl.Instr, others int, want bool) {
	t.Helper()
	isGood(t, append([]impl.Instr{i}, slices.Repeat([]impl.Instr{{Op: impl.IEnd}}, others)...), want)
}

func TestOpsByTheirNumbers(t *testing.T) {
	t.Parallel()
	got := []int{impl.IConst, impl.IMove, impl.IOp, impl.ICall, impl.IIn, impl.ILoad, impl.IStore, impl.IJump, impl.IZero, impl.IBarrier, impl.IEnd, impl.INot, impl.INeg}
	if !slices.Equal(got, upTo(14)[1:]) || impl.MaxCode != 600 || impl.MaxRegs != 400 || impl.MaxCodeSteps != 100000 || impl.RunStuck != 3 {
		t.Errorf("ops %v", got)
	}
	for op := -3; op < 20; op++ {
		i := impl.Instr{Op: op}
		switch op {
		case impl.IOp, impl.ICall:
			i.Word = 5
		}
		goodAhead(t, i, 1, op >= 1 && op <= 13)
	}
	for _, op := range wrongInts {
		if op < 1 || op > 13 {
			goodAhead(t, impl.Instr{Op: op}, 1, false)
		}
	}
}

// plainInstr: a good instruction of an op, all of whose fields may be changed by
// one.
func plainInstr(op int) impl.Instr {
	i := instrs([]string{"", "const 1 1", "move 1 1", "op 1 1 1 33", "call 1 1 1 1 10", "in 1 1", "load 1 1 1", "store 1 1 1", "jump 1", "zero 1 1 1", "barrier", "end", "not 1 1", "neg 1 1"}[op])
	return i[0]
}

// Each field that an op names, at and beyond both ends.
func TestFieldsAtTheirEnds(t *testing.T) {
	t.Parallel()
	ends := map[string][]int{"register": {0, 1, 398, 399}, "constant": {0, 1, 999, 1000, 1 << 31, math.MaxUint32}, "given": {0, 1, 998, 999}}
	beyond := map[string][]int{"register": {-1, -2, 400, 401, 599, 600, 999, 1 << 32, -1 << 32, math.MinInt64, math.MaxInt64}, "given": {1000, 1001, 1 << 16, 1 << 31, math.MaxUint32}}
	for op := 1; op <= 13; op++ {
		for _, field := range ops[op].fields {
			what := ops[op].holds[field]
			for _, value := range ends[what] {
				goodAhead(t, withField(plainInstr(op), field, value), 1, true)
			}
			for _, value := range beyond[what] {
				goodAhead(t, withField(plainInstr(op), field, value), 1, false)
			}
			if what == "number" {
				for _, count := range []int{2, 3, 50, 600} {
					for _, value := range []int{0, 1, count - 1} {
						goodAhead(t, withField(plainInstr(op), field, value), count-1, true)
					}
					for _, value := range []int{-1, count, count + 1, 1 << 32, math.MinInt64, math.MaxInt64} {
						goodAhead(t, withField(plainInstr(op), field, value), count-1, false)
					}
				}
			}
		}
	}
}

// Each field that an op does not name is 0.
func TestFieldsThatAreNotNamed(t *testing.T) {
	t.Parallel()
	tried := 0
	for op := 1; op <= 13; op++ {
		goodAhead(t, plainInstr(op), 1, true)
		for _, field := range fieldNames {
			if ops[op].holds[field] != "" {
				continue
			}
			tried++
			for _, value := range []int{1, 2, 399, math.MaxUint32} {
				goodAhead(t, withField(plainInstr(op), field, value), 1, false)
			}
			if field != "Word" {
				for _, value := range []int{-1, 1 << 32, math.MinInt64, math.MaxInt64} {
					goodAhead(t, withField(plainInstr(op), field, value), 1, false)
				}
			}
		}
	}
	if tried != 13*5-29 {
		t.Errorf("%d fields are not named", tried)
	}
}

// IOp: the signs with a strength, of kinds 1 to 3.
func TestWordsOfSigns(t *testing.T) {
	t.Parallel()
	strong := []int{1, 2, 3, 4, 7, 8, 10, 12, 15, 16, 17, 19, 20, 21, 22, 25, 27, 28}
	for word := range 140 {
		goodAhead(t, impl.Instr{Op: impl.IOp, Word: uint32(word)}, 1, slices.Contains(strong, word/4) && word%4 != 0)
	}
	for _, word := range []uint32{999, 1000, 1<<31 + 33, 1<<32 - 1, 1<<30 + 33} {
		goodAhead(t, impl.Instr{Op: impl.IOp, Word: word}, 1, false)
	}
}

// ICall: the calls with operands, of kinds 1 and 2; operands that a call does not
// have are 0.
func TestWordsOfCalls(t *testing.T) {
	t.Parallel()
	arity := map[int]int{0: 1, 1: 1, 2: 3, 4: 1, 6: 2, 7: 2, 9: 1}
	for word := range 60 {
		good := arity[word/4] > 0 && (word%4 == 1 || word%4 == 2)
		for _, regs := range [][3]int{{}, {1, 0, 0}, {0, 1, 0}, {0, 0, 1}, {399, 399, 399}, {5, 399, 0}, {5, 0, 399}} {
			operands := 0
			for n, reg := range regs {
				if reg != 0 {
					operands = n + 1
				}
			}
			goodAhead(t, impl.Instr{Op: impl.ICall, A: regs[0], B: regs[1], C: regs[2], Word: uint32(word)}, 1, good && operands <= arity[word/4])
		}
	}
	for _, word := range []uint32{999, 1000, 1<<31 + 5, 1<<32 - 1, 1<<30 + 5} {
		goodAhead(t, impl.Instr{Op: impl.ICall, Word: word}, 1, false)
	}
}

// A constant may be any word: floats are constants, too.
func TestConstantsOfCode(t *testing.T) {
	t.Parallel()
	for _, word := range []uint32{0, 1, 999, 1000, 1065353216, 1 << 31, impl.TheNaN, math.MaxUint32} {
		l := []impl.Instr{{Op: impl.IConst, D: 3, Word: word}, {Op: impl.IConst, D: 2}, {Op: impl.IStore, A: 2, B: 3}, {Op: impl.IEnd}}
		isGood(t, l, true)
		if got := impl.RunCode(l, launchOf(0, 1)); !sameRan(got, impl.Ran{Buffers: [][]uint32{{word}}, Steps: 4}) {
			t.Errorf("the constant %d: %v", word, got)
		}
	}
}

func TestHowManyInstructions(t *testing.T) {
	t.Parallel()
	isGood(t, nil, false)
	isGood(t, []impl.Instr{}, false)
	for _, count := range []int{1, 2, 599, 600} {
		isGood(t, slices.Repeat(instrs("end"), count), true)
		isGood(t, append(slices.Repeat(instrs("move 0 1"), count-1), instrs("end")...), true)
	}
	for _, count := range []int{601, 602, 1200, 65536, 65537, 100000} {
		isGood(t, slices.Repeat(instrs("end"), count), false)
	}
}

func TestTheLastInstruction(t *testing.T) {
	t.Parallel()
	for op := 1; op <= 13; op++ {
		last := plainInstr(op)
		want := op == impl.IEnd || op == impl.IJump
		isGood(t, append(instrs("end"), last), want)
		isGood(t, []impl.Instr{last, last}, want)
		if op != impl.IJump && op != impl.IZero {
			isGood(t, []impl.Instr{last}, want)
		}
	}
	isGood(t, instrs("jump 0"), true)
	isGood(t, instrs("jump 1"), false)
	isGood(t, instrs("zero 0 0 0"), false)
	isGood(t, instrs("end | barrier"), false)
	isGood(t, instrs("barrier | end | end | jump 3"), true)
}

// One that is not as said, wherever it stands.
func TestOneThatIsNotAsSaid(t *testing.T) {
	t.Parallel()
	for at := range 6 {
		l := instrs("in 0 0 | const 1 2 | op 2 0 1 33 | zero 2 5 5 | jump 0 | end")
		isGood(t, l, true)
		l[at].C = 600
		isGood(t, l, false)
	}
}

// reads: what an instruction reads.
func reads(t *testing.T, text string, want ...int) {
	t.Helper()
	i := instrs(text)[0]
	if got := impl.ReadsOf(i); !slices.Equal(got, want) {
		t.Errorf("ReadsOf(%s) = %v, want %v", text, got, want)
	}
	heldReads(t, i)
}

func TestReadsOfEveryOp(t *testing.T) {
	t.Parallel()
	reads(t, "const 3 7")
	reads(t, "move 3 7", 7)
	reads(t, "op 3 7 5 33", 5, 7)
	reads(t, "op 3 5 7 33", 5, 7)
	reads(t, "call 3 7 0 0 1", 7)
	reads(t, "call 3 7 0 0 5", 7)
	reads(t, "call 3 7 0 0 18", 7)
	reads(t, "call 3 7 0 0 38", 7)
	reads(t, "call 3 7 5 0 25", 5, 7)
	reads(t, "call 3 7 0 0 25", 0, 7)
	reads(t, "call 3 7 5 0 30", 5, 7)
	reads(t, "call 3 7 5 6 10", 5, 6, 7)
	reads(t, "call 3 7 0 6 10", 0, 6, 7)
	reads(t, "call 3 1 2 3 9", 1, 2, 3)
	reads(t, "call 3 3 2 1 9", 1, 2, 3)
	reads(t, "in 3 7")
	reads(t, "load 3 7 9", 7)
	reads(t, "store 7 5 9", 5, 7)
	reads(t, "store 5 7 9", 5, 7)
	reads(t, "jump 7")
	reads(t, "zero 7 5 6", 7)
	reads(t, "barrier")
	reads(t, "end")
	reads(t, "not 3 7", 7)
	reads(t, "neg 3 7", 7)
}

func TestReadsOfRegistersNamedTwice(t *testing.T) {
	t.Parallel()
	reads(t, "move 7 7", 7)
	reads(t, "op 7 7 7 33", 7)
	reads(t, "op 7 7 3 33", 3, 7)
	reads(t, "op 3 399 0 33", 0, 399)
	reads(t, "store 7 7 0", 7)
	reads(t, "store 0 0 0", 0)
	reads(t, "call 0 0 0 0 1", 0)
	reads(t, "call 1 0 0 0 29", 0)
	reads(t, "call 1 4 4 0 29", 4)
	reads(t, "call 1 4 4 4 9", 4)
	reads(t, "call 1 4 2 4 9", 2, 4)
	reads(t, "call 1 4 4 2 9", 2, 4)
	reads(t, "call 1 2 4 4 9", 2, 4)
	reads(t, "call 1 0 0 0 9", 0)
}

// Of one that is not as said none; numbers may be those of any code.
func TestReadsOfWhatIsNotAsSaid(t *testing.T) {
	t.Parallel()
	reads(t, "zero 7 599 599", 7)
	reads(t, "zero 7 0 599", 7)
	for _, text := range []string{"zero 7 600 0", "zero 7 0 600", "zero 7 -1 0", "zero 7 0 -1", "zero 400 0 0", "zero -1 0 0", "move 400 7", "move 7 400", "move -1 7", "move 7 -1", "op 1 2 3 32", "op 1 2 3 0", "op 1 2 3 1", "op 1 2 3 73", "op 1 2 3 121", "op 1 2 400 33", "op 1 400 2 33", "op 400 1 2 33", "call 1 2 3 0 1", "call 1 2 0 3 1", "call 1 2 0 3 25", "call 1 2 3 4 13", "call 1 2 3 4 8", "call 1 2 3 4 11", "call 1 0 0 0 41", "call 1 0 0 0 45", "load 1 2 1000", "load 1 -2 1", "store 1 2 1000", "store 1 400 0", "not 1 400", "not 400 1", "neg 1 400", "neg 400 1", "neg 1 -1"} {
		reads(t, text)
	}
	for op := 1; op <= 13; op++ {
		for _, field := range fieldNames {
			i := withField(plainInstr(op), field, 1000)
			if ops[op].holds[field] != "constant" && len(impl.ReadsOf(i)) > 0 {
				t.Errorf("ReadsOf(%v) = %v", i, impl.ReadsOf(i))
			}
		}
	}
	for _, op := range wrongInts {
		if op < 1 || op > 13 {
			if got := impl.ReadsOf(impl.Instr{Op: op, A: 1, B: 2}); len(got) > 0 {
				t.Errorf("op %d reads %v", op, got)
			}
		}
	}
}

func TestRegistersOfCode(t *testing.T) {
	t.Parallel()
	for text, want := range map[string]int{
		"end": 0, "jump 0": 0, "jump 1 | end": 0, "barrier | barrier | end": 0,
		"const 0 7 | end": 1, "const 399 7 | end": 400, "move 3 5 | end": 6, "move 5 3 | end": 6,
		"op 1 2 3 33 | end": 4, "op 1 3 2 33 | end": 4, "op 3 1 2 33 | end": 4, "op 0 0 0 33 | end": 1,
		"call 1 2 3 4 9 | end": 5, "call 4 1 2 3 9 | end": 5, "call 1 4 2 3 9 | end": 5, "call 1 2 4 3 9 | end": 5, "call 0 0 0 0 9 | end": 1, "call 2 1 0 0 5 | end": 3, "call 1 2 0 0 5 | end": 3, "call 1 2 9 0 25 | end": 10,
		"in 2 999 | end": 3, "in 0 0 | end": 1, "load 1 2 999 | end": 3, "load 2 1 999 | end": 3,
		"store 0 0 999 | end": 1, "store 1 8 999 | end": 9, "store 8 1 999 | end": 9,
		"zero 0 3 3 | end | end | end": 1, "zero 9 1 2 | end | end | end": 10, "jump 5 | end | end | end | end | end": 0,
		"not 1 2 | end": 3, "not 2 1 | end": 3, "neg 1 2 | end": 3, "neg 2 1 | end": 3,
		"const 7 9 | const 3 1 | end": 8, "end | const 7 9 | jump 0": 8,
		"const 400 0 | end": 0, "const 5 0": 0, "const 5 0 | barrier": 0, "move 5 -1 | end": 0,
	} {
		if got := impl.RegsOf(instrs(text)); got != want {
			t.Errorf("RegsOf(%s) = %d, want %d", text, got, want)
		}
		heldCode(t, instrs(text))
	}
	if impl.RegsOf(nil) != 0 || impl.RegsOf([]impl.Instr{}) != 0 {
		t.Error("registers of no code")
	}
}

// Every op's text and bytes.
func TestTextAndBytesOfEveryOp(t *testing.T) {
	t.Parallel()
	text := "const 399 4294967295\nmove 1 2\nop 3 4 5 33\ncall 6 7 8 9 10\ncall 6 7 0 0 5\nin 10 999\nload 11 12 13\nstore 14 15 16\njump 9\nzero 17 599 18\nbarrier\nend\nnot 19 20\nneg 21 300\n"
	text += strings.Repeat("end\n", 600-14)
	l := instrs(text)
	if got, ok := impl.CodeText(l); got != text || !ok {
		t.Errorf("CodeText: %q, %v", got, ok)
	}
	if got, ok := impl.ReadCode(text); !slices.Equal(got, l) || !ok {
		t.Errorf("ReadCode: %v, %v", got, ok)
	}
	data := []byte{75, 79, 68, 49, 88, 2,
		1, 143, 1, 255, 255, 255, 255,
		2, 1, 0, 2, 0,
		3, 3, 0, 4, 0, 5, 0, 33, 0, 0, 0,
		4, 6, 0, 7, 0, 8, 0, 9, 0, 10, 0, 0, 0,
		4, 6, 0, 7, 0, 0, 0, 0, 0, 5, 0, 0, 0,
		5, 10, 0, 231, 3, 0, 0,
		6, 11, 0, 12, 0, 13, 0, 0, 0,
		7, 14, 0, 15, 0, 16, 0, 0, 0,
		8, 9, 0,
		9, 17, 0, 87, 2, 18, 0,
		10,
		11,
		12, 19, 0, 20, 0,
		13, 21, 0, 44, 1}
	data = append(data, slices.Repeat([]byte{11}, 600-14)...)
	crc := 0
	for _, b := range data {
		crc = (crc*31 + int(b)) % 65521
	}
	data = append(data, byte(crc), byte(crc/256))
	if got, ok := impl.EncodeCode(l); !slices.Equal(got, data) || !ok {
		t.Errorf("EncodeCode: %v, %v", got, ok)
	}
	if got, ok := impl.DecodeCode(data); !slices.Equal(got, l) || !ok {
		t.Errorf("DecodeCode: %v, %v", got, ok)
	}
	if got, ok := impl.EncodeCode(instrs("end")); !slices.Equal(got, []byte{75, 79, 68, 49, 1, 0, 11, 196, 98}) || !ok {
		t.Errorf("EncodeCode of one: %v, %v", got, ok)
	}
}

// notRead: texts that are none of any code.
func notRead(t *testing.T, texts ...string) {
	t.Helper()
	for _, text := range texts {
		if got, ok := impl.ReadCode(text); ok || len(got) > 0 {
			t.Errorf("ReadCode(%q) = %v, %v", text, got, ok)
		}
		heldReadCode(t, text)
	}
}

func TestTextsOfNoCode(t *testing.T) {
	t.Parallel()
	notRead(t, "", "\n", " ", "end", "end\r\n", "end\n\n", "\nend\n", "end \n", " end\n", "end\nend", "END\n", "End\n", "ends\n", "en\n", "stop\n", "0\n", "11\n", "end 0\n", "end\x00\n", "end\n\x00", "barrier\n", "jump 0 \n", "jump  0\n", "jump\t0\n", "jump\n", "jump 0 0\n", "jump 00\n", "jump +0\n", "jump -0\n", "jump 0.0\n", "jump x\n", "jump 1\n", "jump -1\n", "jump 0\njump 2\n", "jump 0x0\n", "jump 0_0\n", "jump \n", "jump 0\n0\n", "jump\n0\n", "jump 18446744073709551616\n", "jump 4294967296\n", "jump ٠\n", "jump 0")
	for _, line := range []string{"const 0", "const 0 0 0", "const 0  0", "const 01 0", "const 0 00", "const 0 +1", "const 0 -1", "const -1 0", "const 400 0", "const 0 4294967296", "const 0 18446744073709551616", "const 0 1e1", "const 0 1.0", "const 0 0 ", "const 0, 0", "const\t0 0", "constant 0 0", "cons 0 0", " 0 0", "0 0", "", " ", "const", "// x", "move 0", "move 0 0 0", "move 0 400", "move 0 01", "op 0 0 0", "op 0 0 0 0", "op 0 0 0 33 0", "op 0 0 0 1000", "call 0 0 1", "call 0 0 0 0 0 1", "call 0 0 1", "call 0 0 0 1", "call 0 0 1 0 1", "call 0 0 0 1 1", "call 0 0 0 0 13", "in 0", "in 0 1000", "in 0 04", "load 0 0", "load 0 0 1000", "load 0 0 0 0", "store 0 0", "store 0 0 1000", "store 0 0 0 0", "jump", "jump 2", "jump 0 0", "zero 0 0", "zero 0 0 2", "zero 0 2 0", "zero 0 0 0 0", "barrier 0", "end 0", "not 0", "not 0 0 0", "neg 0", "neg 0 0 0", "neg 0 400"} {
		notRead(t, line+"\nend\n")
	}
	for _, text := range []string{"end\n", "jump 0\n", "barrier\nend\n", "const 0 0\nend\n", "const 10 4294967295\nend\n", "call 0 0 0 0 1\nend\n", "zero 0 1 0\nend\n", "end\njump 1\n"} {
		if got, ok := impl.ReadCode(text); !ok || !slices.Equal(got, instrs(text)) {
			t.Errorf("ReadCode(%q) = %v, %v", text, got, ok)
		}
		notRead(t, text[:len(text)-1], text+" ", text+"\n", " "+text, "\n"+text, strings.ReplaceAll(text, "\n", "\r\n"), strings.ReplaceAll(text, "\n", ""), text+"x\n", text+"barrier\n", strings.ToUpper(text))
	}
	heldReadCode(t, strings.Repeat("end\n", 600))
	notRead(t, strings.Repeat("end\n", 601), strings.Repeat("end\n", 100000), strings.Repeat("\n", 100000), strings.Repeat("end ", 100000), strings.Repeat("end\n", 600)+"\n", strings.Repeat("end\n", 599)+"end", strings.Repeat(" ", 1<<20), "jump "+strings.Repeat("0", 1<<20)+"\n")
}

// notDecoded: bytes that are none of any code.
func notDecoded(t *testing.T, l ...[]byte) {
	t.Helper()
	for _, data := range l {
		if got, ok := impl.DecodeCode(data); ok || len(got) > 0 {
			t.Errorf("DecodeCode(%v) = %v, %v", data, got, ok)
		}
		heldDecoded(t, data)
	}
}

// everyOp: code with each op.
const everyOp = "const 1 1065353216 | move 2 1 | op 3 1 2 34 | call 4 1 2 3 10 | call 4 1 0 0 18 | in 5 0 | load 6 5 1 | store 5 6 0 | zero 5 10 10 | jump 10 | barrier | not 7 5 | neg 8 3 | end"

// Bytes cut off at every place, and with bytes behind them; with the Crc as it
// was, and as it would be.
func TestBytesCutOff(t *testing.T) {
	t.Parallel()
	for _, text := range []string{everyOp, "end", "jump 0", "end | end | end"} {
		data, ok := impl.EncodeCode(instrs(text))
		if !ok || !heldDecoded(t, data) {
			t.Fatalf("%s does not come back", text)
		}
		for at := range data {
			notDecoded(t, data[:at], data[at+1:], slices.Delete(slices.Clone(data), at, at+1), slices.Insert(slices.Clone(data), at, 0), slices.Insert(slices.Clone(data), at, data[at]))
			if at < len(data)-2 {
				notDecoded(t, withCrc(data[:at]))
			}
		}
		body := data[:len(data)-2]
		for _, more := range [][]byte{{0}, {11}, {0, 0}, {11, 11}, data, {1, 0, 0, 0, 0, 0, 0}} {
			notDecoded(t, slices.Concat(data, more), slices.Concat(more, data), withCrc(slices.Concat(body, more)), withCrc(slices.Concat(more, body)))
		}
	}
	notDecoded(t, nil, []byte{}, []byte("KOD1"), withCrc(nil), withCrc([]byte("KOD1")), withCrc([]byte{75, 79, 68, 49, 0, 0}), withCrc([]byte{75, 79, 68, 49, 255, 255}), withCrc([]byte{75, 79, 68, 49, 1, 0}), withCrc([]byte{75, 79, 68, 48, 1, 0, 11}), withCrc([]byte{76, 79, 68, 49, 1, 0, 11}), withCrc([]byte{49, 68, 79, 75, 1, 0, 11}), withCrc([]byte{75, 79, 68, 49, 0, 1, 11}), withCrc([]byte{75, 79, 68, 49, 2, 0, 11}), withCrc([]byte{75, 79, 68, 49, 0, 0, 11}), withCrc([]byte{75, 79, 68, 49, 1, 0, 10}))
}

// Bytes of code that is not good, with the Crc that they would have.
func TestBytesOfCodeThatIsNotGood(t *testing.T) {
	t.Parallel()
	for _, text := range []string{"barrier", "const 0 0", "end | barrier", "const 400 0 | end", "const 65535 0 | end", "jump 1", "jump 65535", "zero 0 2 0 | end", "zero 0 0 2 | end", "zero 400 0 0 | end", "op 0 0 0 32 | end", "op 0 0 0 1 | end", "op 0 0 0 1000 | end", "call 0 0 1 0 1 | end", "call 0 0 0 1 25 | end", "call 0 0 0 0 13 | end", "call 0 0 0 0 3 | end", "in 0 1000 | end", "in 0 4294967295 | end", "load 0 0 1000 | end", "load 0 400 0 | end", "store 0 0 1000 | end", "store 0 400 0 | end", "not 0 400 | end", "neg 400 0 | end", "move 0 400 | end"} {
		isGood(t, instrs(text), false)
		notDecoded(t, withCrc(bytesOfCode(instrs(text))))
	}
	notDecoded(t, withCrc(bytesOfCode(slices.Repeat(instrs("end"), 601))), withCrc(bytesOfCode(slices.Repeat(instrs("end"), 65535))), withCrc(append([]byte{75, 79, 68, 49, 0, 0}, slices.Repeat([]byte{11}, 65536)...)))
	for op := range 256 {
		if !isOp(op) {
			notDecoded(t, withCrc([]byte{75, 79, 68, 49, 2, 0, byte(op), 11}))
		}
	}
	if !heldDecoded(t, withCrc(bytesOfCode(slices.Repeat(instrs("end"), 600)))) {
		t.Error("600 instructions are not read")
	}
}
