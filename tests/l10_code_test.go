package tests

import (
	"bytes"
	"math"
	"slices"
	"strconv"
	"strings"
	"testing"

	"loop.example/g00053/impl"
)

// Code, held against the other way.

// heldCode: all that is told of a list of instructions; whether it is good.
func heldCode(t *testing.T, l []impl.Instr) bool {
	t.Helper()
	want := wantCode(l)
	if got := impl.GoodCode(l); got != want {
		t.Errorf("GoodCode(%v) = %v", l, got)
	}
	if got, want := impl.RegsOf(l), wantRegs(l); got != want {
		t.Errorf("RegsOf(%v) = %d, want %d", l, got, want)
	}
	for _, i := range l {
		heldReads(t, i)
	}
	text, ok := impl.CodeText(l)
	if wantText, wantOk := wantCodeText(l); text != wantText || ok != wantOk {
		t.Errorf("CodeText(%v) = %q, %v, want %q", l, text, ok, wantText)
	}
	data, ok := impl.EncodeCode(l)
	if wantData, wantOk := wantEncoded(l); !bytes.Equal(data, wantData) || ok != wantOk {
		t.Errorf("EncodeCode(%v) = %v, %v, want %v", l, data, ok, wantData)
	}
	return want
}

func heldReads(t *testing.T, i impl.Instr) {
	t.Helper()
	if got, want := impl.ReadsOf(i), wantReads(i); !slices.Equal(got, want) {
		t.Errorf("ReadsOf(%v) = %v, want %v", i, got, want)
	}
}

func heldReadCode(t *testing.T, text string) bool {
	t.Helper()
	got, ok := impl.ReadCode(text)
	if want, wantOk := wantReadCode(text); !slices.Equal(got, want) || ok != wantOk {
		t.Errorf("ReadCode(%q) = %v, %v, want %v, %v", text, got, ok, want, wantOk)
	}
	return ok
}

func heldDecoded(t *testing.T, data []byte) bool {
	t.Helper()
	got, ok := impl.DecodeCode(data)
	if want, wantOk := wantDecoded(data); !slices.Equal(got, want) || ok != wantOk {
		t.Errorf("DecodeCode(%v) = %v, %v, want %v, %v", data, got, ok, want, wantOk)
	}
	return ok
}

func heldCompiled(t *testing.T, l []impl.Node) ([]impl.Instr, bool) {
	t.Helper()
	got, ok := impl.CompileKernel(l)
	if want, wantOk := wantCompiled(l); !slices.Equal(got, want) || ok != wantOk {
		t.Errorf("CompileKernel(%v) = %v, %v, want %v, %v", l, got, ok, want, wantOk)
	}
	return got, ok
}

func heldRanCode(t *testing.T, l []impl.Instr, x impl.Launch) impl.Ran {
	t.Helper()
	got := impl.RunCode(l, x)
	if want := wantRanCode(l, x); !sameRan(got, want) {
		t.Errorf("RunCode(%v, %v) = %v, want %v", l, x, got, want)
	}
	return got
}

// fieldValue: something that a field may hold.
func (c chance) fieldValue(what string, count, regs int) int {
	switch what {
	case "register":
		return c.Intn(regs)
	case "number":
		return c.Intn(count)
	case "constant":
		return int([...]uint32{c.Uint32(), uint32(c.Intn(6)), c.word(), math.MaxUint32, 1000}[c.Intn(5)])
	case "sign":
		return slices.Index(wantSigns, betweenSigns[c.Intn(len(betweenSigns))])*4 + 1 + c.Intn(3)
	case "call":
		calls := strings.Fields("abs float fma int max min sqrt")
		return slices.Index(wantCalls, calls[c.Intn(len(calls))])*4 + 1 + c.Intn(2)
	}
	return [...]int{c.Intn(1000), c.Intn(20), c.Intn(5), 999}[c.Intn(4)]
}

// instr: a good one of an op for code of so many.
func (c chance) instr(op, count, regs int) impl.Instr {
	i := impl.Instr{Op: op}
	for _, field := range ops[op].fields {
		i = withField(i, field, c.fieldValue(ops[op].holds[field], count, regs))
	}
	if op == impl.ICall {
		for n := callArity(i); n < 3; n++ {
			i = withField(i, fieldNames[1+n], 0)
		}
	}
	return i
}

// code: good code of so many instructions of any kind.
func (c chance) code(count int) []impl.Instr {
	var l []impl.Instr
	for range count - 1 {
		l = append(l, c.instr(1+c.Intn(13), count, 400))
	}
	return append(l, c.instr([...]int{impl.IEnd, impl.IJump}[c.Intn(2)], count, 400))
}

// someCount: how many instructions code has.
func (c chance) someCount() int {
	return [...]int{1, 2, 3, 1 + c.Intn(10), 1 + c.Intn(60), 600}[c.Intn(6)]
}

func TestCodeByChance(t *testing.T) {
	t.Parallel()
	c := newChance(170)
	for range 400 {
		if l := c.code(c.someCount()); !heldCode(t, l) {
			t.Errorf("%v is not good", l)
		}
	}
}

// changedInstr: an instruction with one field, or its op, changed.
func (c chance) changedInstr(i impl.Instr, count int) impl.Instr {
	values := slices.Concat(wrongInts, []int{399, 400, 401, 599, 600, count - 1, count, count + 1, 14, 999, 1000, 1 << 31, 1<<32 - 1, c.Intn(140)})
	value := values[c.Intn(len(values))]
	if c.Intn(6) == 0 {
		i.Op = [...]int{value, c.Intn(15)}[c.Intn(2)]
		return i
	}
	return withField(i, fieldNames[c.Intn(5)], value)
}

func TestCodeWithOneChange(t *testing.T) {
	t.Parallel()
	c := newChance(171)
	good := 0
	for n := range 4000 {
		l := c.code(1 + c.Intn(8))
		if n%50 == 0 {
			l = c.code(600)
		}
		at := c.Intn(len(l))
		l[at] = c.changedInstr(l[at], len(l))
		if heldCode(t, l) {
			good++
		}
	}
	if good < 400 || good > 3000 {
		t.Errorf("%d of 4000 are good", good)
	}
}

// Every two ops, the second one as the last.
func TestEveryTwoOps(t *testing.T) {
	t.Parallel()
	c := newChance(172)
	for first := range 15 {
		for last := range 15 {
			l := []impl.Instr{{Op: first}, {Op: last}}
			if isOp(first) {
				l[0] = c.instr(first, 2, 400)
			}
			if isOp(last) {
				l[1] = c.instr(last, 2, 400)
			}
			if want := isOp(first) && (last == impl.IEnd || last == impl.IJump); heldCode(t, l) != want {
				t.Errorf("%v: %v", l, !want)
			}
		}
	}
}

// changedText: a text of code with something of it changed.
func (c chance) changedText(text string) string {
	lines := strings.SplitAfter(text, "\n")
	at := c.Intn(len(lines))
	words := strings.Split(lines[at], " ")
	word := c.Intn(len(words))
	switch c.Intn(9) {
	case 0:
		lines[at] = ""
	case 1:
		lines[at] += lines[c.Intn(len(lines))]
	case 2:
		words[word] = strconv.Itoa(wrongInts[c.Intn(len(wrongInts))])
	case 3:
		words[word] = [...]string{"0", "-", "+", " ", "00", "\t", "x"}[c.Intn(7)] + words[word]
	case 4:
		words[word] += [...]string{" ", "\n", "0", " 0", "\r", ".", "\x00", "x"}[c.Intn(8)]
	case 5:
		words = slices.Delete(words, word, word+1)
	case 6:
		words[0] = ops[c.Intn(len(ops))].name
	case 7:
		words[0] = wrongTexts[c.Intn(len(wrongTexts))]
	}
	if lines[at] != "" {
		lines[at] = strings.Join(words, " ")
	}
	text = strings.Join(lines, "")
	if c.Intn(9) == 0 && text != "" {
		data := []byte(text)
		data[c.Intn(len(data))] = byte(c.Intn(256))
		return string(data)
	}
	return text
}

func TestTextsOfCodeByChance(t *testing.T) {
	t.Parallel()
	c := newChance(173)
	good := 0
	for n := range 3000 {
		l := c.code(1 + c.Intn(6))
		if n%100 == 0 {
			l = c.code(600)
		}
		text, _ := impl.CodeText(l)
		if !heldReadCode(t, text) {
			t.Errorf("%q is not read", text)
		}
		if heldReadCode(t, c.changedText(text)) {
			good++
		}
	}
	if good < 200 || good > 2000 {
		t.Errorf("%d of 3000 changed texts are read", good)
	}
}

// changedBytes: bytes of code, ahead of their Crc, with something changed.
func (c chance) changedBytes(data []byte) []byte {
	data = slices.Clone(data)
	at := c.Intn(len(data))
	switch c.Intn(6) {
	case 0:
		return data[:at]
	case 1:
		return slices.Insert(data, at, byte(c.Intn(256)))
	case 2:
		return slices.Delete(data, at, at+1)
	case 3:
		data[4+c.Intn(2)] += byte(1 + c.Intn(3))
	case 4:
		data[at] = byte(c.Intn(16))
	default:
		data[at] ^= 1 << c.Intn(8)
	}
	return data
}

func TestBytesOfCodeByChance(t *testing.T) {
	t.Parallel()
	c := newChance(174)
	good := 0
	for n := range 3000 {
		l := c.code(1 + c.Intn(6))
		if n%100 == 0 {
			l = c.code(600)
		}
		data, _ := impl.EncodeCode(l)
		if !heldDecoded(t, data) {
			t.Errorf("%v is not read", data)
		}
		heldDecoded(t, c.changedBytes(data))
		if heldDecoded(t, withCrc(c.changedBytes(data[:len(data)-2]))) {
			good++
		}
	}
	if good < 200 || good > 2000 {
		t.Errorf("%d of 3000 changed bytes are read", good)
	}
}

// someKernel: a kernel with types of one of several sorts.
func (c chance) someKernel(n int) []impl.Node {
	switch n % 5 {
	case 0:
		return c.kernelWithTypes(5+n%120, 0).nodes()
	case 1:
		return c.calmKernel(n%2 == 0, 2+n%5, n%3*4)
	case 2:
		return c.kernelWithConsts(5 + n%60)
	case 3:
		return c.tangled(1+n%len(linkNames), 3+n%20)
	}
	return c.tameKernel(5 + n%120)
}

func TestKernelsAreCompiled(t *testing.T) {
	t.Parallel()
	c := newChance(175)
	done := [14]int{}
	for n := range 700 {
		code, ok := heldCompiled(t, c.someKernel(n))
		if !ok {
			t.Error("a kernel with types has no code")
		}
		for _, i := range code {
			done[i.Op]++
		}
	}
	for op, n := range done[1:] {
		if n < 20 {
			t.Errorf("%s stands %d times", ops[op+1].name, n)
		}
	}
}

func TestKernelsWithFaultsAreNotCompiled(t *testing.T) {
	t.Parallel()
	c := newChance(176)
	good := 0
	for n := range 600 {
		l := c.kernelWithTypes(5+n%80, 30).nodes()
		if _, ok := heldCompiled(t, l); ok {
			good++
		}
		if len(l) > 0 {
			l[c.Intn(len(l))].Kids++
			heldCompiled(t, l)
		}
	}
	if good < 100 || good > 500 {
		t.Errorf("%d of 600 kernels have code", good)
	}
}

// Every operation at operands of every row of types.
func TestEveryOperationIsCompiled(t *testing.T) {
	t.Parallel()
	forms := map[rune][]string{'i': {"n", "a [ 1 ]", "- 7"}, 'f': {"f", "b [ 1 ]", "- 0.5"}, 'b': {"true", "! ( n < f )"}}
	for _, text := range slices.Concat(betweenSigns, wantCalls, []string{"-", "!"}) {
		counts := []int{2}
		if isCall(text) {
			counts = []int{wantArity[text]}
		} else if text == "-" {
			counts = []int{1, 2}
		} else if text == "!" {
			counts = []int{1}
		}
		for _, count := range counts {
			for _, letters := range operandLetters(count) {
				if wantOutcome(text, letters) == '-' {
					continue
				}
				for n := range 3 {
					var operands []string
					for at, letter := range letters {
						operands = append(operands, forms[letter][(n+at)%len(forms[letter])])
					}
					expr := operationText(text, operands)
					if count == 1 && !isCall(text) {
						expr = text + " " + operands[0]
					}
					l := kernelWith(t, given("let x = "+expr+" ; x = x ;"))
					if _, ok := heldCompiled(t, l); !ok {
						t.Errorf("%q has no code", expr)
					}
				}
			}
		}
	}
}

// walkable: code that mostly ends, with small registers, places and numbers. By
// register 7 threads go one way, since only constants are laid into it; by
// register 0 they part, since it has the thread's own number.
func (c chance) walkable(count int) []impl.Instr {
	by := [...]int{7, 7, 0}[c.Intn(3)]
	var l []impl.Instr
	for at := range count - 1 {
		op := [...]int{1, 1, 2, 3, 3, 3, 4, 4, 5, 5, 5, 6, 6, 7, 7, 7, 8, 9, 9, 10, 10, 12, 13}[c.Intn(23)]
		i := c.instr(op, count, 8)
		if slices.Contains(ops[op].fields, "D") {
			i.D = 1 + c.Intn(6)
		}
		ahead := func() int { return at + 1 + c.Intn(min(count-at-1, 8)) }
		switch op {
		case impl.IConst:
			i.Word = [...]uint32{uint32(c.Intn(5)), uint32(c.Intn(5)), i.Word}[c.Intn(3)]
			i.D = [...]int{i.D, 7}[c.Intn(2)]
		case impl.IJump:
			i.A = ahead()
		case impl.IZero:
			i.A, i.B, i.C = by, ahead(), ahead()
			if c.Intn(60) == 0 {
				i.B = c.Intn(count)
			}
		case impl.IIn:
			i.Word = uint32([...]int{0, 0, 1, 2, 3, 4, 5, 19, 20, 21}[c.Intn(10)])
		case impl.ILoad, impl.IStore:
			i.Word = uint32([...]int{0, 0, 0, 1, 1, 2, 15, 16, 999}[c.Intn(9)])
		}
		if at == 0 && by == 0 {
			i = impl.Instr{Op: impl.IIn, Word: uint32(c.Intn(2))}
		}
		l = append(l, i)
	}
	last := impl.Instr{Op: impl.IEnd}
	if c.Intn(60) == 0 {
		last = impl.Instr{Op: impl.IJump, A: c.Intn(count)}
	}
	return append(l, last)
}

// codeLaunch: a good launch for any code.
func (c chance) codeLaunch() impl.Launch {
	x := impl.Launch{Groups: 1 + c.Intn(4), Size: 1 + c.Intn(8), Words: c.smallWords(c.Intn(17))}
	for range [...]int{0, 1, 2, 3, 16, c.Intn(17)}[c.Intn(6)] {
		x.Buffers = append(x.Buffers, c.smallWords([...]int{0, 1, 2, 5, 16, 64}[c.Intn(6)]))
	}
	return x
}

func (c chance) smallWords(n int) []uint32 {
	l := make([]uint32, n)
	for i := range l {
		l[i] = c.wordFor([...]int{impl.NWholeIn, impl.NFloatIn}[c.Intn(2)])
	}
	return l
}

func TestRunsOfCodeByChance(t *testing.T) {
	t.Parallel()
	c := newChance(177)
	codes, passed, done := [4]int{}, 0, [14]int{}
	for n := range 2500 {
		l, x := c.walkable(1+n%40), c.codeLaunch()
		got := heldRanCode(t, l, x)
		codes[got.Code]++
		if got.Code != 0 || n%5 > 0 {
			continue
		}
		_, s := strolled(l, x)
		for at, times := range s.did {
			done[l[at].Op] += times
			if l[at].Op == impl.IBarrier {
				passed++
			}
		}
	}
	if codes[0] < 1200 || codes[impl.RunSteps] < 40 || codes[impl.RunStuck] < 100 || codes[impl.RunBad] > 0 || passed < 150 {
		t.Errorf("codes %v, %d barriers are passed", codes, passed)
	}
	for op, n := range done[1:] {
		if n < 200 {
			t.Errorf("%s is done %d times", ops[op+1].name, n)
		}
	}
}

// Code of any kind goes round, or ends.
func TestRunsOfAnyCode(t *testing.T) {
	t.Parallel()
	c := newChance(178)
	codes := [4]int{}
	for n := range 60 {
		codes[heldRanCode(t, c.code(1+n%30), c.codeLaunch()).Code]++
	}
	if codes[0] < 15 || codes[impl.RunSteps] < 15 || codes[impl.RunBad] > 0 {
		t.Errorf("codes %v", codes)
	}
}

// oneWrong: a launch, or code, with one thing of it changed, but for some.
func (c chance) oneWrong(l []impl.Instr, x impl.Launch) ([]impl.Instr, impl.Launch) {
	switch c.Intn(8) {
	case 0:
		x.Groups = wrongInts[c.Intn(len(wrongInts))]
	case 1:
		x.Size = wrongInts[c.Intn(len(wrongInts))]
	case 2:
		x.Words = c.words(14 + c.Intn(5))
	case 3:
		x.Buffers = slices.Repeat([][]uint32{{1, 2, 3}}, 14+c.Intn(5))
	case 4:
		x.Buffers = append(x.Buffers, c.words(62+c.Intn(5)))
	case 5:
		at := c.Intn(len(l))
		l[at] = c.changedInstr(l[at], len(l))
	}
	return l, x
}

// Launches with one thing changed, and code that is not good.
func TestLaunchesForCodeByChance(t *testing.T) {
	t.Parallel()
	c := newChance(179)
	bad := 0
	for range 1500 {
		l, x := c.oneWrong(c.walkable(1+c.Intn(6)), c.codeLaunch())
		if heldRanCode(t, l, x).Code == impl.RunBad {
			bad++
		}
	}
	if bad < 300 || bad > 1000 {
		t.Errorf("%d of 1500 are bad", bad)
	}
}

// What kernels become does what the other way does with it.
func TestRunsOfCompiledKernels(t *testing.T) {
	t.Parallel()
	c := newChance(180)
	codes := [4]int{}
	for n := range 150 {
		l := c.someKernel(n)
		code, _ := impl.CompileKernel(l)
		codes[heldRanCode(t, code, c.launchFor(l)).Code]++
	}
	if codes[0] < 80 || codes[impl.RunStuck] > 0 || codes[impl.RunBad] > 0 {
		t.Errorf("codes %v", codes)
	}
}
