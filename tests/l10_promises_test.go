package tests

import (
	"bytes"
	"math"
	"slices"
	"strings"
	"testing"

	"loop.example/g00053/impl"
)

// sameAsCode: a kernel's code leaves in the buffers what the kernel leaves, where
// neither run has a code; both codes.
func sameAsCode(t *testing.T, l []impl.Node, x impl.Launch) (int, int) {
	t.Helper()
	code, ok := impl.CompileKernel(l)
	if !ok || !impl.GoodCode(code) {
		t.Fatalf("%v has no good code", l)
	}
	want, got := impl.RunKernel(l, x), impl.RunCode(code, x)
	if want.Code == 0 && got.Code == 0 && !sameValues(got.Buffers, want.Buffers) {
		t.Errorf("%v with %v leaves %v, its code %v", l, x, want.Buffers, got.Buffers)
	}
	if got.Code != 0 && got.Code != impl.RunSteps {
		t.Errorf("the code of %v with %v has the code %d", l, x, got.Code)
	}
	return want.Code, got.Code
}

// Promise 10: the code does what the kernel does.
func TestPromise10CodeDoesWhatTheKernelDoes(t *testing.T) {
	t.Parallel()
	c := newChance(181)
	both, changed := [3][3]int{}, 0
	for n := range 1200 {
		l := c.someKernel(n)
		x := c.launchFor(l)
		if n%5 == 1 {
			x = c.calmLaunch(l, n%2 == 0)
		}
		of, by := sameAsCode(t, l, x)
		both[of][by]++
		if of == 0 && by == 0 && !sameValues(impl.RunKernel(l, x).Buffers, x.Buffers) {
			changed++
		}
	}
	if both[0][0] < 900 || changed < 400 || both[impl.RunSteps][0]+both[impl.RunSteps][impl.RunSteps] < 20 {
		t.Errorf("codes of kernels and of their code %v, %d change a buffer", both, changed)
	}
}

// Promise 10: what stands in each statement, at operands of each sort.
func TestPromise10EveryStatement(t *testing.T) {
	t.Parallel()
	for _, text := range []string{"7", "- 7", "n", "- n", "n + 2 * 3", "n - 1 - 2", "a [ 1 ]", "a [ n ]", "tid ( )", "local ( ) - 3", "group ( )", "size ( )", "n / 0", "n % - 2", "n << 33", "- n >> 1", "n & 3 | 8 ^ 2", "abs ( - n )", "min ( n , 2 )", "max ( n , tid ( ) )", "int ( 2.5 )", "int ( - f )", "int ( b [ 2 ] )", "2147483647 + n", "- 2147483647 - n"} {
		for _, form := range []string{"a [ 0 ] = # ;", "a [ # ] = 7 ;", "b [ 1 ] = # ;", "let x = # ; x = x * 2 ; a [ 2 ] = x ;", "let x = 0.5 ; x = # ; b [ 0 ] = x / 2 ;", "for i in # .. ( # ) + 2 { a [ i ] = i ; }", "for i in 0 .. ( # ) % 5 { a [ tid ( ) ] = a [ tid ( ) ] * 3 + i ; }", "if ( # ) < 2 && 1 == 1 { a [ 1 ] = 1 ; } else { a [ 2 ] = 1 ; }", "if ! ( ( # ) == n ) { a [ 1 ] = 1 ; }", "a [ 3 ] = a [ ( # ) - 1 ] ;", "b [ 2 ] = fma ( # , 1.5 , f ) ;", "b [ 0 ] = - ( ( # ) + f ) ;", "b [ 0 ] = sqrt ( # ) ; b [ 1 ] = float ( # ) ;", "b [ 1 ] = min ( f , # ) ;", "a [ tid ( ) ] = # ; barrier ; a [ 3 - tid ( ) ] = a [ tid ( ) ] + ( # ) ;"} {
			l := kernelWith(t, given(strings.ReplaceAll(form, "#", text)))
			for _, x := range []impl.Launch{around(2, 2, 1, 2, 3, 4), around(1, 4, 0, -1, 9, 2), around(1, 1)} {
				if of, by := sameAsCode(t, l, x); of != 0 || by != 0 {
					t.Errorf("%q for %q: codes %d, %d", text, form, of, by)
				}
			}
		}
	}
}

// Promise 10: words of any sort go through code bit by bit.
func TestPromise10AnyWords(t *testing.T) {
	t.Parallel()
	c := newChance(182)
	l := kernelWith(t, given("let x = f ; b [ 0 ] = x ; x = b [ 1 ] ; b [ 2 ] = x ; b [ 3 ] = - x ; b [ 4 ] = x + f ; b [ 5 ] = x * f ; b [ 6 ] = x / f ; b [ 7 ] = abs ( x ) ; b [ 8 ] = min ( x , f ) ; b [ 9 ] = max ( x , f ) ; b [ 10 ] = sqrt ( x ) ; b [ 11 ] = fma ( x , f , n ) ; b [ 12 ] = float ( x ) ; b [ 13 ] = n ; a [ 0 ] = int ( x ) ; if x < f { a [ 1 ] = 1 ; } if x == f { a [ 2 ] = 1 ; } if x != f { a [ 3 ] = 1 ; } if x >= n { a [ 4 ] = 1 ; } let p = x <= f ; p = ! p ; if p { a [ 5 ] = 1 ; }"))
	odd := []uint32{0, 1 << 31, impl.TheNaN, 0x7f800001, 0xffc00000, 0xffffffff, 0x7f800000, 0xff800000, 1, 0x80000001, 0x7f7fffff, 0x3f800000}
	for range 400 {
		x := impl.Launch{Groups: 1, Size: 1, Words: []uint32{c.Uint32(), c.word()}, Buffers: [][]uint32{make([]uint32, 6), c.words(14)}}
		for _, at := range []*uint32{&x.Words[1], &x.Buffers[1][1]} {
			if c.Intn(2) == 0 {
				*at = odd[c.Intn(len(odd))]
			}
		}
		if of, by := sameAsCode(t, l, x); of != 0 || by != 0 {
			t.Errorf("codes %d, %d", of, by)
		}
	}
}

// Promise 10: a run of the kernel that ends may be too long as code, and the
// other way round.
func TestPromise10OneOfTwoIsTooLong(t *testing.T) {
	t.Parallel()
	long := "a [ 0 ] = n" + strings.Repeat(" + n", 110) + " ;"
	l := kernelWith(t, given("for i in 0 .. 1000 { "+long+" }"))
	if of, by := sameAsCode(t, l, around(1, 1, 0)); of != 0 || by != impl.RunSteps {
		t.Errorf("codes %d, %d", of, by)
	}
	l = kernelWith(t, given("for i in 0 .. 4000 { }"))
	if of, by := sameAsCode(t, l, around(1, 1, 0)); of != impl.RunSteps || by != 0 {
		t.Errorf("codes %d, %d", of, by)
	}
	l = kernelWith(t, given("for i in 0 - 2147483647 .. 2147483647 { }"))
	if of, by := sameAsCode(t, l, around(1, 1, 0)); of != impl.RunSteps || by != impl.RunSteps {
		t.Errorf("codes %d, %d", of, by)
	}
	l = kernelWith(t, given("for i in 2147483640 .. 2147483647 { a [ i - 2147483640 ] = i ; }"))
	if of, by := sameAsCode(t, l, around(1, 1, 0, 0, 0, 0, 0, 0, 0, 0)); of != 0 || by != 0 {
		t.Errorf("codes %d, %d", of, by)
	}
}

// codeComesBack: good code comes back from its text and its bytes.
func codeComesBack(t *testing.T, l []impl.Instr) (string, []byte) {
	t.Helper()
	text, ok := impl.CodeText(l)
	if got, read := impl.ReadCode(text); !ok || !read || !slices.Equal(got, l) {
		t.Errorf("%v comes back from %q as %v", l, text, got)
	}
	data, ok := impl.EncodeCode(l)
	if got, read := impl.DecodeCode(data); !ok || !read || !slices.Equal(got, l) {
		t.Errorf("%v comes back from %v as %v", l, data, got)
	}
	return text, data
}

// Promise 10: code comes back from its text and its bytes.
func TestPromise10CodeComesBack(t *testing.T) {
	t.Parallel()
	c := newChance(183)
	texts := map[string]string{}
	for n := range 1500 {
		l := c.code(c.someCount())
		if n%3 == 0 {
			l, _ = impl.CompileKernel(c.someKernel(n))
		}
		text, data := codeComesBack(t, l)
		if was, ok := texts[text]; ok && was != string(data) {
			t.Errorf("%q has two rows of bytes", text)
		}
		texts[text] = string(data)
	}
	codeComesBack(t, instrs(everyOp))
}

// Promise 10: with any one bit turned bytes are none of any code.
func TestPromise10OneBitTurned(t *testing.T) {
	t.Parallel()
	c := newChance(184)
	codes := [][]impl.Instr{instrs("end"), instrs("jump 0"), instrs(everyOp), c.code(40), c.code(600)}
	for n := range 40 {
		l, _ := impl.CompileKernel(c.someKernel(n))
		codes = append(codes, l, c.code(1+n%8))
	}
	for _, l := range codes {
		data, _ := impl.EncodeCode(l)
		step := 1
		if len(data) > 1000 {
			step = 13 // bits in all places of a byte, but not of each byte
		}
		for bit := 0; bit < 8*len(data); bit += step {
			data[bit/8] ^= 1 << (bit % 8)
			if got, ok := impl.DecodeCode(data); ok || len(got) > 0 {
				t.Errorf("%v with bit %d turned is %v", l, bit, got)
			}
			data[bit/8] ^= 1 << (bit % 8)
		}
		if got, ok := impl.DecodeCode(data); !ok || !slices.Equal(got, l) {
			t.Errorf("%v does not come back", l)
		}
	}
}

// Promise 10: code that came back does the same.
func TestPromise10ComesBackAndDoesTheSame(t *testing.T) {
	t.Parallel()
	c := newChance(185)
	for n := range 200 {
		l, x := c.walkable(1+n%40), c.codeLaunch()
		text, data := codeComesBack(t, l)
		read, _ := impl.ReadCode(text)
		decoded, _ := impl.DecodeCode(data)
		want := impl.RunCode(l, x)
		if got, again := impl.RunCode(read, x), impl.RunCode(decoded, x); !sameRan(got, want) || !sameRan(again, want) {
			t.Errorf("%v with %v leaves %v, come back %v, %v", l, x, want, got, again)
		}
	}
}

// anyInstr: fields of any kind.
func (c chance) anyInstr() impl.Instr {
	some := func(n int) int {
		if c.Intn(4) == 0 {
			return wrongInts[c.Intn(len(wrongInts))]
		}
		return c.Intn(n)
	}
	return impl.Instr{Op: some(15), D: some(3), A: some(3), B: some(3), C: some(3), Word: [...]uint32{c.Uint32(), uint32(c.Intn(130)), uint32(c.Intn(4))}[c.Intn(3)]}
}

// anyInstrs: lists of instructions with fields of any kind, alone and among
// others, and launches for them.
func (c chance) anyInstrs(look func([]impl.Instr, impl.Launch)) {
	for n := range 6000 {
		var l []impl.Instr
		for range 1 + n%4 {
			l = append(l, c.anyInstr())
		}
		if n%2 == 0 {
			l = append(l, impl.Instr{Op: impl.IEnd})
		}
		look(l, impl.Launch{Groups: 1, Size: 2, Buffers: [][]uint32{{1, 2, 3}}})
	}
	for _, value := range wrongInts {
		for op := range 15 {
			for _, field := range fieldNames {
				look([]impl.Instr{withField(impl.Instr{Op: op}, field, value), {Op: impl.IEnd}}, launchOf(3, 2))
			}
		}
	}
}

// Promise 25: instructions with fields of any kind.
func TestPromise25AnyInstructions(t *testing.T) {
	t.Parallel()
	newChance(186).anyInstrs(func(l []impl.Instr, x impl.Launch) {
		heldCode(t, l)
		heldRanCode(t, l, x)
	})
}

// Promise 25: no code at all, and far too much of it.
func TestPromise25NoCode(t *testing.T) {
	t.Parallel()
	for _, l := range [][]impl.Instr{nil, {}, {{}}, slices.Repeat([]impl.Instr{{}}, 600), slices.Repeat(instrs("end"), 601), slices.Repeat(instrs("end"), 1<<20)} {
		if text, ok := impl.CodeText(l); ok || text != "" {
			t.Errorf("CodeText of %d: %q", len(l), text)
		}
		if data, ok := impl.EncodeCode(l); ok || len(data) > 0 {
			t.Errorf("EncodeCode of %d: %v", len(l), data)
		}
		if impl.GoodCode(l) || impl.RegsOf(l) != 0 || !sameRan(impl.RunCode(l, launchOf(0)), impl.Ran{Code: impl.RunBad}) {
			t.Errorf("%d instructions are good", len(l))
		}
	}
	if got := impl.ReadsOf(impl.Instr{}); len(got) > 0 {
		t.Errorf("nothing reads %v", got)
	}
}

// Promise 25: trees that are no good kernel, and kernels with one change.
func TestPromise25NoKernelsAreCompiled(t *testing.T) {
	t.Parallel()
	l := impl.ReadKernel(typedAll).Nodes
	if _, ok := heldCompiled(t, l); !ok {
		t.Fatal("all of it has no code")
	}
	for at := range l {
		notCompiled(t, l[:at])
		if at > 0 {
			notCompiled(t, l[at:])
		}
		notCompiled(t, append(slices.Clone(l), l[at:]...))
		for _, n := range wrongInts {
			k := slices.Clone(l)
			k[at].Kids = n
			if n != l[at].Kids {
				notCompiled(t, k)
			}
			k[at] = impl.Node{Kind: n, Text: l[at].Text, Kids: l[at].Kids}
			heldCompiled(t, k)
		}
		for _, text := range []string{"", "x", "y", "p", "i", "n", "a", "0", "1", "1.5", "true", "tid", "-", "+", "<", "float", "fma", "\xff"} {
			k := slices.Clone(l)
			k[at].Text = text
			heldCompiled(t, k)
		}
	}
	for _, n := range []int{251, 100000} {
		notCompiled(t, slices.Repeat(nodesOf("9 x 1, 8 tid 0"), n))
		notCompiled(t, slices.Repeat(nodesOf("16 k 1"), n))
		notCompiled(t, slices.Repeat(nodesOf("17 n 0"), n))
	}
	c := newChance(187)
	for n := range 1500 {
		l := make([]impl.Node, c.Intn(1+n%60))
		for i := range l {
			l[i] = impl.Node{Kind: c.Intn(22), Text: wrongTexts[c.Intn(len(wrongTexts))], Kids: c.Intn(4)}
		}
		heldCompiled(t, l)
		if len(l) > 1 {
			l[0], l[1] = impl.Node{Kind: impl.NKernel, Text: "k", Kids: 1}, impl.Node{Kind: impl.NBlock, Kids: c.Intn(3)}
		}
		heldCompiled(t, l)
	}
}

// oddLaunches: of any kind.
func oddLaunches() []impl.Launch {
	return []impl.Launch{
		{}, {Groups: 1}, {Size: 1}, {Groups: 1, Size: 1}, {Groups: 1, Size: 1, Buffers: [][]uint32{nil}}, {Groups: 4, Size: 8, Buffers: make([][]uint32, 16), Words: make([]uint32, 16)},
		{Groups: 1, Size: 1, Words: make([]uint32, 1<<20)}, {Groups: 1, Size: 1, Buffers: make([][]uint32, 1<<20)},
		{Groups: 1, Size: 1, Buffers: [][]uint32{nil, make([]uint32, 1<<20)}},
		{Groups: math.MaxInt64, Size: math.MaxInt64}, {Groups: math.MinInt64, Size: math.MinInt64}, {Groups: 1 << 32, Size: 1 << 32}, {Groups: 1<<32 + 1, Size: 1<<32 + 1}, {Groups: -1, Size: -1}, {Groups: 1, Size: math.MaxInt64}, {Groups: math.MaxInt64, Size: 1},
	}
}

// Promise 25: launches of any kind for code.
func TestPromise25LaunchesForCode(t *testing.T) {
	t.Parallel()
	l := instrs("in 0 0 | in 1 4 | load 2 0 0 | store 0 1 0 | barrier | load 2 0 15 | store 0 2 1 | end")
	for _, x := range oddLaunches() {
		got := heldRanCode(t, l, x)
		if bad := !wantCodeLaunch(x); bad != (got.Code == impl.RunBad) {
			t.Errorf("%v with %v", got, x)
		}
		heldRanCode(t, nil, x)
	}
}

// Promise 25: texts and bytes of any kind.
func TestPromise25AnyTextsAndBytes(t *testing.T) {
	t.Parallel()
	c := newChance(188)
	for _, text := range slices.Concat(wrongTexts, brokenRunes, wholeRunes, notTokens()) {
		for _, form := range []string{"#", "#\n", "#\nend\n", "end\n#\n", "jump #\n", "const 0 #\nend\n", "const # 0\nend\n", "# 0\nend\n", "end\n#"} {
			heldReadCode(t, strings.ReplaceAll(form, "#", text))
		}
		heldDecoded(t, []byte(text))
		heldDecoded(t, withCrc([]byte("KOD1"+text)))
	}
	for n := range 4000 {
		data := c.bytes(n % 40)
		heldDecoded(t, data)
		heldReadCode(t, string(data))
		if len(data) > 6 {
			copy(data, "KOD1")
			data[4], data[5] = byte(c.Intn(4)), 0
			for at := range data[6:] {
				if c.Intn(2) == 0 {
					data[6+at] = byte(c.Intn(14))
				}
			}
			heldDecoded(t, withCrc(data))
		}
	}
	for _, size := range []int{1 << 16, 1 << 20} {
		for _, b := range []byte{0, 1, 11, 13, 255, '\n', ' ', '0'} {
			data := bytes.Repeat([]byte{b}, size)
			copy(data, "KOD1\xff\xff")
			if got, ok := impl.DecodeCode(data); ok || len(got) > 0 {
				t.Errorf("%d bytes %d are code", size, b)
			}
			if got, ok := impl.ReadCode(string(data)); ok || len(got) > 0 {
				t.Errorf("%d bytes %d are a text", size, b)
			}
		}
	}
}

// Promise 25: nothing is written into code, bytes and launches, and no answer
// shares their memory.
func TestPromise25CodeIsKept(t *testing.T) {
	t.Parallel()
	c := newChance(189)
	for n := range 300 {
		l, x := c.walkable(1+n%40), c.codeLaunch()
		kept := keptLaunch(x)
		ask := func(l []impl.Instr) []byte {
			text, ok := impl.CodeText(l)
			data, _ := impl.EncodeCode(l)
			ran := impl.RunCode(l, kept)
			out := append(data, text...)
			for _, word := range slices.Concat(flat(ran.Buffers), wholes(ran.Steps, ran.Code, impl.RegsOf(l), int(wordOf(ok && impl.GoodCode(l))))) {
				out = append(out, byte(word), byte(word>>8), byte(word>>16), byte(word>>24))
			}
			return out
		}
		apartFrom(t, "chapter 10", l, ask)
		if !launchUnchanged(kept, x) {
			t.Errorf("a launch of %v is changed", l)
		}
		apartFrom(t, "EncodeCode", l, func(l []impl.Instr) []byte { data, _ := impl.EncodeCode(l); return data })
		data, _ := impl.EncodeCode(l)
		apartFrom(t, "DecodeCode", data, func(data []byte) []impl.Instr { l, _ := impl.DecodeCode(data); return l })
		text, _ := impl.CodeText(l)
		apartFrom(t, "ReadCode", []string{text}, func(l []string) []impl.Instr { code, _ := impl.ReadCode(l[0]); return code })
		apartFrom(t, "ReadsOf", l, func(l []impl.Instr) []int { return impl.ReadsOf(l[c.Intn(1)]) })
		apartFrom(t, "CompileKernel", c.someKernel(n), func(l []impl.Node) []impl.Instr { code, _ := impl.CompileKernel(l); return code })
	}
	for _, text := range []string{"call 3 1 2 2 10", "call 3 1 0 0 5", "op 1 2 2 33", "op 1 5 4 33", "store 3 3 0", "move 1 2"} {
		apartFrom(t, "ReadsOf", instrs(text), func(l []impl.Instr) []int { return impl.ReadsOf(l[0]) })
	}
}

// Promise 25: buffers that are answered are new memory.
func TestPromise25NewBuffersOfCode(t *testing.T) {
	t.Parallel()
	c := newChance(190)
	for n := range 200 {
		l, x := c.walkable(1+n%40), c.codeLaunch()
		if n%4 == 0 && len(x.Buffers) > 0 { // all buffers are one list: what is answered is not
			x.Buffers = slices.Repeat(x.Buffers[:1], len(x.Buffers))
		}
		newBuffersOf(t, x, func(x impl.Launch) impl.Ran { return impl.RunCode(l, x) })
	}
	empty := make([]uint32, 3)
	x := impl.Launch{Groups: 1, Size: 1, Buffers: [][]uint32{empty[:0], empty[:1]}}
	got := impl.RunCode(instrs("const 1 1 | const 2 5 | store 0 2 0 | store 0 2 1 | store 1 2 1 | load 3 1 1 | end"), x)
	overwrite(got.Buffers)
	if !slices.Equal(empty, make([]uint32, 3)) || len(got.Buffers[0]) != 0 || len(got.Buffers[1]) != 1 {
		t.Errorf("buffers of %v with something behind: %v", got, empty)
	}
}

// Promise 25: what lies behind the lengths of lists is not looked at.
func TestPromise25BehindCode(t *testing.T) {
	t.Parallel()
	c := newChance(191)
	for n := range 300 {
		l, x := c.walkable(1+n%40), c.codeLaunch()
		kept := keptLaunch(x)
		more := append(slices.Clone(l), c.anyInstr(), impl.Instr{Op: impl.IBarrier})[:len(l)]
		if got, want := impl.RunCode(more, kept), impl.RunCode(l, x); !sameRan(got, want) {
			t.Errorf("%v leaves %v, with something behind %v", l, want, got)
		}
		for i := range kept.Words {
			kept.Words[:2*len(x.Words)][len(x.Words)+i] = c.Uint32()
		}
		heldCode(t, more)
		heldRanCode(t, more, kept)
		data, _ := impl.EncodeCode(l)
		heldDecoded(t, append(data, c.bytes(9)...)[:len(data)])
		heldDecoded(t, data[:n%len(data)])
	}
}

// Promise 25: answers hang on what is given alone, whatever was asked between.
func TestPromise25CodeAgain(t *testing.T) {
	t.Parallel()
	c := newChance(192)
	for n := range 60 {
		kernel := c.someKernel(n)
		x := c.launchFor(kernel)
		l, _ := impl.CompileKernel(kernel)
		text, data := codeComesBack(t, l)
		ran := impl.RunCode(l, x)
		for range 3 {
			other := c.code(1 + c.Intn(9))
			codeComesBack(t, other)
			impl.RunCode(c.walkable(20), c.codeLaunch())
			impl.ReadCode("end")
			impl.DecodeCode([]byte("KOD1"))
			again, _ := impl.CompileKernel(newTexts(kernel))
			againText, againData := codeComesBack(t, again)
			if !slices.Equal(again, l) || againText != text || !bytes.Equal(againData, data) || !sameRan(impl.RunCode(slices.Clone(l), keptLaunch(x)), ran) {
				t.Errorf("%v is told otherwise again", l)
			}
		}
	}
}
