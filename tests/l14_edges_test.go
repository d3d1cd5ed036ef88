package tests

import (
	"math"
	"slices"
	"strconv"
	"strings"
	"testing"

	"loop.example/g00053/impl"
)

// The edges that chapter 14 names, with what is told of rows written out.

// latency: of instructions, all of which have the same.
func latency(t *testing.T, text string, want int) {
	t.Helper()
	for _, i := range instrs(text) {
		if got := impl.LatencyOf(i); got != want || wantLatency(i) != want {
			t.Errorf("LatencyOf(%v) = %d, want %d", i, got, want)
		}
	}
}

func TestLatencyOfEachOp(t *testing.T) {
	t.Parallel()
	latency(t, "load 1 2 3 | load 0 0 0 | load 399 399 999", 8)
	latency(t, "call 1 2 0 0 1 | call 1 2 3 0 25 | call 1 2 3 4 10 | call 0 0 0 0 2", 6)
	latency(t, "op 1 2 3 34 | op 0 0 0 50", 4)
	latency(t, "op 1 2 3 9 | op 1 2 3 49", 6)
	latency(t, "const 1 5 | const 0 0 | const 399 4294967295 | move 1 2 | in 1 0 | in 1 999 | store 1 2 3 | store 0 0 0 | not 1 2 | neg 1 2 | op 1 2 3 33 | op 1 2 3 35", 1)
	latency(t, "jump 0 | jump 599 | zero 1 2 3 | zero 399 599 599 | barrier | end", 1)
}

// Each sign, of each kind: those that have no type among them.
func TestLatencyOfSigns(t *testing.T) {
	t.Parallel()
	for number, sign := range wantSigns {
		for kind := range 4 {
			want := []int{0, 1, 4, 1}[kind]
			if kind == 1 && (sign == "/" || sign == "%") {
				want = 6
			}
			if !slices.Contains(betweenSigns, sign) {
				want = 0
			}
			for _, i := range []impl.Instr{{Op: impl.IOp}, {Op: impl.IOp, D: 399, A: 1, B: 1}} {
				i.Word = uint32(4*number + kind)
				if got := impl.LatencyOf(i); got != want {
					t.Errorf("LatencyOf(%v), of %s of kind %d, = %d, want %d", i, sign, kind, got, want)
				}
			}
		}
	}
	for _, word := range []uint32{120, 121, 122, 123, 124, 999, 1000, 1 << 16, 1<<16 + 34, 1<<31 + 34, math.MaxUint32, math.MaxUint32 - 1} {
		if got := impl.LatencyOf(impl.Instr{Op: impl.IOp, Word: word}); got != 0 {
			t.Errorf("an IOp with the Word %d has the latency %d", word, got)
		}
	}
}

// Each call, of each kind, with as many registers as it has operands, and more.
func TestLatencyOfCalls(t *testing.T) {
	t.Parallel()
	for number, call := range wantCalls {
		for kind := range 4 {
			word, arity := uint32(4*number+kind), wantArity[call]
			for count := range 4 {
				i := impl.Instr{Op: impl.ICall, D: 7, Word: word}
				for n := range count {
					i = withField(i, fieldNames[1+n], 5)
				}
				want := 0
				if arity > 0 && count <= arity && (kind == 1 || kind == 2) {
					want = 6
				}
				if got := impl.LatencyOf(i); got != want {
					t.Errorf("LatencyOf(%v), of %s of kind %d, = %d, want %d", i, call, kind, got, want)
				}
			}
		}
	}
}

// An instruction of any code: its numbers are below MaxCode.
func TestLatencyAtTheEndsOfFields(t *testing.T) {
	t.Parallel()
	ends := map[string][]int{"register": {0, 1, 398, 399}, "number": {0, 1, 598, 599}, "constant": {0, 1, 1000, 1 << 31, math.MaxUint32}, "given": {0, 1, 998, 999}}
	beyond := map[string][]int{"register": {-1, 400, 401, 599, 1 << 32, -1 << 32, math.MinInt64, math.MaxInt64}, "number": {-1, 600, 601, 999, 1 << 32, math.MinInt64, math.MaxInt64}, "given": {1000, 1001, 1 << 16, math.MaxUint32}}
	for op := 1; op <= 13; op++ {
		plain := impl.LatencyOf(plainInstr(op))
		if plain < 1 {
			t.Errorf("%v has the latency %d", plainInstr(op), plain)
		}
		for _, field := range fieldNames {
			what := ops[op].holds[field]
			for _, value := range ends[what] {
				if i := withField(plainInstr(op), field, value); impl.LatencyOf(i) != plain {
					t.Errorf("LatencyOf(%v) = %d, want %d", i, impl.LatencyOf(i), plain)
				}
			}
			others := beyond[what]
			if what == "" {
				others = []int{1, -1, 399, 1 << 31, math.MaxUint32}
			}
			for _, value := range others {
				if i := withField(plainInstr(op), field, value); impl.LatencyOf(i) != 0 {
					t.Errorf("LatencyOf(%v) = %d, want 0", i, impl.LatencyOf(i))
				}
			}
		}
	}
	for _, op := range slices.Concat(wrongInts, []int{-13, 14, 15, 256 + 6, 1<<32 + 6, 1<<32 + 4}) {
		if i := (impl.Instr{Op: op}); !isOp(op) && impl.LatencyOf(i) != 0 {
			t.Errorf("LatencyOf(%v) = %d, want 0", i, impl.LatencyOf(i))
		}
	}
	if got := impl.LatencyOf(impl.Instr{}); got != 0 {
		t.Errorf("nothing has the latency %d", got)
	}
}

// needs: for each of a row those that it needs.
func needs(t *testing.T, text, want string) {
	t.Helper()
	l := instrs(text)
	got, ok := impl.NeedsOf(l)
	if told := toldRows(got); !ok || told != toldAgain(want) {
		t.Errorf("in %s need %s, %v, want %s", text, told, ok, want)
	}
	heldRow(t, l)
}

func TestNeedsWhatItReads(t *testing.T) {
	t.Parallel()
	needs(t, "const 1 5", "")
	needs(t, "const 1 5 | move 2 1", "|0")
	needs(t, "const 1 5 | move 2 3", "|")
	// each op that writes, and each one that reads
	for _, writer := range strings.Split("const 1 5|move 1 8|op 1 8 8 33|call 1 8 8 8 10|in 1 0|load 1 8 7|not 1 8|neg 1 8", "|") {
		for _, reader := range strings.Split("move 2 1|op 2 1 9 33|op 2 9 1 33|op 2 1 1 34|call 2 1 0 0 1|call 2 1 9 0 29|call 2 9 1 0 29|call 2 1 9 9 10|call 2 9 1 9 10|call 2 9 9 1 10|load 2 1 3|store 1 9 3|store 9 1 3|not 2 1|neg 2 1", "|") {
			needs(t, writer+"|"+reader, "|0")
			needs(t, writer+"| const 7 7 |"+reader, "||0")
			// the other way round: what is read is written behind
			needs(t, reader+"|"+writer, "|0")
			needs(t, strings.Replace(writer, " 1", " 11", 1)+"|"+reader, "|")
			needs(t, reader+"|"+strings.Replace(writer, " 1", " 11", 1), "|")
		}
	}
}

func TestNeedsWhatWritesTheSame(t *testing.T) {
	t.Parallel()
	writers := strings.Split("const 1 5|move 1 8|op 1 8 8 33|call 1 8 8 8 10|in 1 0|load 1 8 7|not 1 8|neg 1 8", "|")
	for _, first := range writers {
		for _, second := range writers {
			needs(t, first+"|"+second, "|0")
			needs(t, first+"|"+strings.Replace(second, " 1", " 11", 1), "|")
		}
	}
	needs(t, "const 1 5 | const 1 6 | const 1 7", "|0|0 1")
}

func TestNeedsInBuffers(t *testing.T) {
	t.Parallel()
	needs(t, "load 1 8 0 | store 2 3 0", "|0")
	needs(t, "store 2 3 0 | load 1 8 0", "|0")
	needs(t, "store 2 3 0 | store 4 5 0", "|0")
	needs(t, "store 2 3 0 | store 2 3 0", "|0")
	needs(t, "load 1 8 0 | load 2 8 0", "|")
	needs(t, "load 1 8 999 | store 2 3 999 | load 4 8 999", "|0|1")
	// of two buffers
	needs(t, "load 1 8 0 | store 2 3 1", "|")
	needs(t, "store 2 3 1 | load 1 8 0", "|")
	needs(t, "store 2 3 0 | store 4 5 1", "|")
	needs(t, "load 1 8 0 | load 2 8 1", "|")
	needs(t, "store 2 3 0 | load 4 8 1 | store 2 3 1 | load 5 8 0 | load 6 8 1 | store 2 3 0", "||1|0|2|0 3")
	// a Word of others is no buffer
	needs(t, "in 1 0 | store 2 3 0", "|")
	needs(t, "const 1 0 | store 2 3 0 | in 4 0 | op 5 6 7 33 | store 2 3 33 | call 9 6 7 0 29 | load 10 6 29", "||||||")
}

// By more than one of these it is told once.
func TestNeedsByMoreThanOne(t *testing.T) {
	t.Parallel()
	needs(t, "load 1 2 0 | store 1 3 0", "|0")
	needs(t, "load 1 2 0 | store 1 1 0", "|0")
	needs(t, "load 1 2 0 | load 2 1 0", "|0")
	needs(t, "op 1 1 1 33 | op 1 1 1 33 | op 1 1 1 33", "|0|0 1")
	needs(t, "move 1 2 | move 2 1 | move 1 2", "|0|0 1")
	needs(t, "call 1 1 1 1 10 | call 1 1 1 1 10", "|0")
	needs(t, "store 1 1 0 | load 1 1 0 | store 1 1 0", "|0|0 1")
}

// Needed is what stands ahead, also where another one between writes the same again.
func TestNeedsAllThatStandAhead(t *testing.T) {
	t.Parallel()
	needs(t, "const 1 1 | const 1 2 | move 2 1", "|0|0 1")
	needs(t, "const 1 1 | move 2 1 | move 3 2 | move 4 3", "|0|1|2")
	needs(t, "const 1 1 | move 2 1 | op 3 1 2 33 | store 3 2 0", "|0|0 1|1 2")
	needs(t, "move 9 1 | move 8 1 | const 1 7 | move 7 1", "||0 1|2")
	needs(t, "in 3 0 | in 1 0 | in 2 0 | in 0 0 | call 4 3 0 2 10 | store 4 1 0", "||||0 2 3|1 4")
}

// Fields that are no registers, or are not read, do not count.
func TestNeedsNothingByOtherFields(t *testing.T) {
	t.Parallel()
	needs(t, "const 0 1 | call 2 1 0 0 1 | call 3 1 4 0 29", "||")
	needs(t, "call 2 1 0 0 1 | call 3 1 4 0 29 | const 0 1", "||")
	needs(t, "const 0 1 | store 1 2 0 | store 1 2 1", "||")
	needs(t, "store 1 2 0 | store 1 2 1 | const 0 1", "||")
	needs(t, "const 5 1 | const 1 5 | in 7 6 | in 6 7", "|||")
	needs(t, "load 1 9 2 | const 2 1", "|")
	needs(t, "op 1 8 9 33 | const 33 1", "|")
	needs(t, "const 0 5 | const 7 0 | in 8 0 | move 9 5", "|||")
}

func TestNeedsInLongRows(t *testing.T) {
	t.Parallel()
	// each needs all that stand ahead, and the last one the first alone
	l := slices.Repeat(instrs("const 1 1"), 64)
	got, ok := impl.NeedsOf(l)
	for at, row := range got {
		if !slices.Equal(row, upTo(at)) {
			t.Errorf("%d needs %v", at, row)
		}
	}
	if !ok || len(got) != 64 {
		t.Errorf("of %d, %v", len(got), ok)
	}
	l = nil
	for reg := range 63 {
		l = append(l, impl.Instr{Op: impl.IIn, D: reg})
	}
	l = append(l, impl.Instr{Op: impl.IMove, D: 63})
	got, _ = impl.NeedsOf(l)
	if told := toldRows(got); told != strings.Repeat("|", 63)+"0" {
		t.Errorf("these are needed: %s", told)
	}
	heldRow(t, l)
}

// noRow: the zero answer and false by all that is told of rows, for any order.
func noRow(t *testing.T, l []impl.Instr, orders ...[]int) {
	t.Helper()
	if got, ok := impl.NeedsOf(l); ok || len(got) > 0 {
		t.Errorf("NeedsOf of %d that are no row: %v", len(l), got)
	}
	if got, ok := impl.CyclesOf(l); ok || got != 0 {
		t.Errorf("CyclesOf of %d that are no row: %d", len(l), got)
	}
	if got, ok := impl.OrderOf(l); ok || len(got) > 0 {
		t.Errorf("OrderOf of %d that are no row: %v", len(l), got)
	}
	for _, order := range append(orders, nil, []int{}, []int{0}, upTo(len(l)), upTo(64), upTo(65)) {
		if got, ok := impl.Reorder(l, order); ok || len(got) > 0 {
			t.Errorf("Reorder of %d that are no row: %v", len(l), got)
		}
	}
}

func TestHowLongRowsAre(t *testing.T) {
	t.Parallel()
	for _, line := range []string{"const 1 1", "load 1 2 3", "store 1 2 3", "call 1 2 3 4 10"} {
		for _, count := range []int{1, 2, 63, 64} {
			heldRow(t, slices.Repeat(instrs(line), count))
		}
		for _, count := range []int{0, 65, 66, 128, 600, 1 << 16} {
			noRow(t, slices.Repeat(instrs(line), count))
		}
	}
}

// None that turns away stands in a row, wherever it stands; nor one that is not as
// said.
func TestWhatStandsInNoRow(t *testing.T) {
	t.Parallel()
	for _, line := range []string{"jump 0", "jump 599", "zero 1 0 0", "zero 1 2 2", "barrier", "end"} {
		noRow(t, instrs(line), []int{0})
		for at := range 4 {
			l := slices.Insert(instrs("const 1 1 | load 2 1 0 | store 2 1 0"), at, instrs(line)[0])
			noRow(t, l, upTo(4), []int{1, 0, 2, 3})
		}
		for _, at := range []int{0, 31, 63} {
			l := slices.Repeat(instrs("in 1 1"), 64)
			l[at] = instrs(line)[0]
			noRow(t, l)
		}
	}
	for _, wrong := range []impl.Instr{{}, {Op: 14}, {Op: -1}, {Op: impl.IConst, D: 400}, {Op: impl.IConst, D: -1}, {Op: impl.IMove, B: 1}, {Op: impl.ILoad, Word: 1000}, {Op: impl.IOp}, {Op: impl.IOp, Word: 36}, {Op: impl.ICall, B: 1, Word: 1}, {Op: impl.IStore, D: 1}, {Op: impl.IIn, Word: 1000}} {
		for at := range 3 {
			noRow(t, slices.Insert(instrs("const 1 1 | move 2 1"), at, wrong), upTo(3))
		}
	}
}

// takes: how many cycles a row takes in its order.
func takes(t *testing.T, text string, want int) {
	t.Helper()
	l := instrs(text)
	if got, ok := impl.CyclesOf(l); !ok || got != want {
		t.Errorf("CyclesOf(%s) = %d, %v, want %d", text, got, ok, want)
	}
	heldRow(t, l)
}

// oneOfEachLatency: instructions that write register 1, with how long that takes.
var oneOfEachLatency = map[string]int{"const 1 5": 1, "move 1 0": 1, "in 1 0": 1, "not 1 0": 1, "neg 1 0": 1, "op 1 0 0 33": 1, "op 1 0 0 35": 1, "op 1 0 0 34": 4, "op 1 0 0 10": 4, "op 1 0 0 9": 6, "op 1 0 0 49": 6, "call 1 0 0 0 1": 6, "load 1 0 0": 8}

func TestCyclesWithoutNeeds(t *testing.T) {
	t.Parallel()
	for line, long := range oneOfEachLatency {
		takes(t, line, long)
		takes(t, line+"| const 2 5", max(long, 2))
		takes(t, line+"| const 2 5 | const 3 5 | const 4 5 | const 5 5", max(long, 5))
		takes(t, "const 2 5 |"+line, long+1)
		takes(t, "const 2 5 | const 3 5 |"+line, long+2)
		takes(t, line+"| load 2 0 1", 9)
	}
	takes(t, "store 1 2 0", 1)
	takes(t, "store 1 2 0 | store 1 2 1 | store 1 2 2", 3)
	takes(t, "load 1 0 0 | load 2 0 0 | load 3 0 0", 10)
	takes(t, "load 1 0 0 | call 2 0 0 0 1 | op 3 0 0 34", 8)
	takes(t, "op 3 0 0 34 | call 2 0 0 0 1 | load 1 0 0", 10)
	takes(t, "call 2 0 0 0 1 | load 1 0 0 | op 3 0 0 34", 9)
}

// Each reads what the one ahead of it writes.
func TestCyclesOfChains(t *testing.T) {
	t.Parallel()
	for line, long := range oneOfEachLatency {
		takes(t, line+"| move 2 1", long+1)
		takes(t, line+"| move 2 1 | move 3 2", long+2)
		takes(t, line+"| load 2 1 1", long+8)
		takes(t, line+"| store 9 1 1", long+1)
		takes(t, line+"| op 2 1 8 34 | call 3 2 0 0 1 | load 4 3 3 | op 5 8 4 49 | store 5 4 4", long+4+6+8+6+1)
	}
	takes(t, "load 0 0 0 | load 0 0 0 | load 0 0 0", 24)
	for line, each := range map[string]int{"load 0 0 0": 8, "call 0 0 0 0 1": 6, "op 0 0 0 34": 4, "op 0 0 0 49": 6, "op 0 0 0 33": 1, "not 0 0": 1} {
		for _, count := range []int{2, 10, 64} {
			if got, ok := impl.CyclesOf(slices.Repeat(instrs(line), count)); !ok || got != count*each {
				t.Errorf("%d times %s takes %d", count, line, got)
			}
		}
	}
}

// What only follows waits one cycle.
func TestCyclesOfWhatFollows(t *testing.T) {
	t.Parallel()
	for line, long := range oneOfEachLatency {
		takes(t, line+"| const 1 6", max(long, 2))             // is written again
		takes(t, line+"| const 0 6", max(long, 2))             // is written behind being read, if it was
		takes(t, line+"| const 1 6 | const 7 7", max(long, 3)) // all can go on
	}
	takes(t, "load 1 0 0 | load 1 0 0", 9)
	takes(t, "load 1 2 0 | load 2 3 0", 9)
	takes(t, "load 1 2 0 | in 2 0 | in 1 0", 8)
	// buffers
	takes(t, "load 1 0 0 | store 2 3 0", 8)
	takes(t, "store 2 3 0 | load 1 0 0", 9)
	takes(t, "store 2 3 0 | store 4 5 0", 2)
	takes(t, "load 1 0 0 | store 2 3 0 | load 4 0 0", 10)
	// one that does both waits for what it reads
	takes(t, "load 1 0 0 | op 1 1 1 33", 9)
	takes(t, "load 1 0 0 | store 1 2 0", 9)
	takes(t, "load 1 0 0 | load 0 1 0", 16)
	// and for all that wrote it, though another one wrote it again
	takes(t, "load 1 0 0 | const 1 6 | move 2 1", 9)
	takes(t, "const 1 6 | load 1 0 0 | move 2 1", 10)
}

func TestCyclesOneBehindTheOther(t *testing.T) {
	t.Parallel()
	// none is issued ahead of the one ahead of it
	takes(t, "load 1 0 0 | move 2 1 | const 3 5", 10)
	takes(t, "load 1 0 0 | move 2 1 | load 3 0 0", 17)
	takes(t, "load 1 0 0 | const 3 5 | move 2 1", 9)
	takes(t, "load 1 0 0 | const 3 5 | const 4 5 | const 5 5 | const 6 5 | const 7 5 | const 8 5 | const 9 5 | move 2 1", 9)
	takes(t, "load 1 0 0 | const 3 5 | const 4 5 | const 5 5 | const 6 5 | const 7 5 | const 8 5 | const 9 5 | const 10 5 | move 2 1", 10)
	// of two that are waited for the later one counts
	takes(t, "load 1 0 0 | call 2 0 0 0 1 | op 3 1 2 33", 9)
	takes(t, "call 2 0 0 0 1 | load 1 0 0 | op 3 1 2 33", 10)
	takes(t, "call 2 0 0 0 1 | const 1 5 | const 3 5 | op 4 0 0 34 | op 5 2 4 33", 8)
	// the last one that is issued is not always the last that can be read
	takes(t, "load 1 0 0 | const 2 5 | const 3 5", 8)
	takes(t, "const 2 5 | load 1 0 0 | op 4 2 2 34", 9)
	takes(t, "op 4 0 0 34 | load 1 4 0 | move 5 4 | const 6 5", 12)
	takes(t, "load 1 0 0 | const 2 5 | move 3 1", 9)
	// at their longest
	long := slices.Repeat(instrs("in 1 0"), 63)
	for at := range long {
		long[at].D = at
	}
	for line, want := range map[string]int{"in 63 0": 64, "load 63 0 0": 71, "move 63 62": 64, "call 63 0 0 0 1": 69} {
		if got, ok := impl.CyclesOf(append(slices.Clone(long), instrs(line)...)); !ok || got != want {
			t.Errorf("63 and %s take %d, want %d", line, got, want)
		}
	}
}

// ordered: the order of a row, and how long it takes then.
func ordered(t *testing.T, text, want string, cycles int) {
	t.Helper()
	l := instrs(text)
	order, ok := impl.OrderOf(l)
	if got := toldRows([][]int{order}); !ok || got != want {
		t.Errorf("OrderOf(%s) = %s, %v, want %s", text, got, ok, want)
		return
	}
	moved, ok := impl.Reorder(l, order)
	if got, _ := impl.CyclesOf(moved); !ok || got != cycles {
		t.Errorf("%s by %s takes %d, want %d", text, want, got, cycles)
	}
	heldRow(t, l)
}

func TestOrdersByTheirHeights(t *testing.T) {
	t.Parallel()
	ordered(t, "const 1 5", "0", 1)
	ordered(t, "store 1 2 0", "0", 1)
	// by latency
	ordered(t, "const 1 5 | load 2 0 0", "1 0", 8)
	ordered(t, "const 1 5 | op 2 0 0 34 | call 3 0 0 0 1 | load 4 0 0", "3 2 1 0", 8)
	ordered(t, "load 4 0 0 | call 3 0 0 0 1 | op 2 0 0 34 | const 1 5", "0 1 2 3", 8)
	ordered(t, "op 1 0 0 33 | op 2 0 0 35 | op 3 0 0 49 | op 4 0 0 50", "2 3 0 1", 6)
	// of alike heights the least number
	ordered(t, "const 1 5 | const 2 5 | const 3 5 | const 4 5", "0 1 2 3", 4)
	ordered(t, "load 3 0 0 | load 2 0 0 | load 1 0 0", "0 1 2", 10)
	ordered(t, "op 1 0 0 49 | call 2 0 0 0 1 | op 3 0 0 9", "0 1 2", 8)
	ordered(t, "const 1 5 | load 2 0 0 | const 3 5 | load 4 0 0 | const 5 5", "1 3 0 2 4", 9)
	// by what is above
	ordered(t, "load 1 0 0 | move 2 1 | load 3 0 0 | move 4 3", "0 2 1 3", 10)
	ordered(t, "load 1 0 0 | const 2 5 | move 3 2 | move 4 3 | move 5 4", "0 1 2 3 4", 8)
	ordered(t, "call 1 0 0 0 1 | load 2 0 0 | load 3 1 0", "0 1 2", 14)
	ordered(t, "load 2 0 0 | call 1 0 0 0 1 | load 3 1 0", "1 0 2", 14)
	ordered(t, "load 2 0 0 | op 1 0 0 34 | op 3 1 1 34 | op 4 3 3 34", "1 0 2 3", 12)
	// of those above the highest
	ordered(t, "load 9 0 0 | const 1 5 | move 2 1 | load 3 1 0", "1 0 3 2", 10)
	ordered(t, "load 9 0 0 | const 1 5 | load 3 1 0 | move 2 1", "1 0 2 3", 10)
}

// One that only follows is one higher, whatever it follows.
func TestOrdersByHeightsOfWhatFollows(t *testing.T) {
	t.Parallel()
	// is written behind being read
	ordered(t, "load 3 9 1 | move 2 1 | load 1 9 0", "1 0 2", 10)
	ordered(t, "load 3 9 1 | load 2 1 0 | const 1 5", "0 1 2", 9)
	ordered(t, "load 3 9 1 | load 2 1 0 | load 1 9 0", "1 0 2", 10)
	// is written again
	ordered(t, "load 3 9 1 | const 1 5 | load 1 9 0", "1 0 2", 10)
	ordered(t, "load 3 9 1 | load 1 9 0 | const 1 5", "0 1 2", 9)
	// buffers
	ordered(t, "load 3 9 1 | store 1 2 0 | load 4 9 0", "1 0 2", 10)
	ordered(t, "load 3 9 1 | load 4 9 0 | store 1 2 0", "0 1 2", 9)
	ordered(t, "load 3 9 1 | store 1 2 0 | store 1 2 0", "0 1 2", 8)
	// eight that follow one another are as high as one that is loaded
	ordered(t, "load 3 9 1"+strings.Repeat("| store 1 2 0", 8), "0 1 2 3 4 5 6 7 8", 9)
	ordered(t, "load 3 9 1"+strings.Repeat("| store 1 2 0", 9), "1 0 2 3 4 5 6 7 8 9", 10)
	// by both: what it reads counts
	ordered(t, "load 3 9 1 | op 1 9 9 49 | op 1 1 1 33 | store 1 1 0 | store 1 1 0", "1 0 2 3 4", 9)
}

// In some cycles none can be issued.
func TestOrdersInWhichCyclesPass(t *testing.T) {
	t.Parallel()
	ordered(t, "load 1 0 0 | move 2 1", "0 1", 9)
	ordered(t, "load 1 0 0 | move 2 1 | const 3 1 | const 4 2", "0 2 3 1", 9)
	ordered(t, "load 1 0 0 | load 2 1 0 | load 3 2 0 | const 4 5", "0 3 1 2", 24)
	ordered(t, "load 1 0 0 | load 2 1 0 | call 4 0 0 0 1 | move 5 4 | move 6 5", "0 2 3 1 4", 16)
	// one that is low is issued where the higher ones have to wait
	ordered(t, "op 1 0 0 34 | load 2 1 0 | const 3 5 | const 4 5 | const 5 5 | const 6 5", "0 2 3 4 1 5", 12)
	ordered(t, "op 1 0 0 34 | load 2 1 0 | const 3 5 | const 4 5 | const 5 5 | const 6 5 | load 7 0 1", "0 6 2 3 1 4 5", 12)
	// just as long as it has to wait
	ordered(t, "call 1 0 0 0 1 | store 1 1 0 | const 2 5 | const 3 5 | const 4 5 | const 5 5 | const 6 5 | const 7 5", "0 2 3 4 5 6 1 7", 8)
}

// An order by heights that takes longer than the row's own.
func TestOrdersThatWouldBeWorse(t *testing.T) {
	t.Parallel()
	fan := "load 2 0 0 | call 1 0 0 0 1 | op 3 1 1 34 | move 4 2 | move 5 2 | move 6 2 | move 7 2"
	ordered(t, fan, "0 1 2 3 4 5 6", 12)
	if w := workedOf(instrs(fan)); !slices.Equal(w.greedy(), []int{1, 0, 2, 3, 4, 5, 6}) || w.cycles() != 12 {
		t.Errorf("it is %v by heights", w.greedy())
	}
	// one as good is taken, though it is not better
	ordered(t, "load 1 9 0 | const 2 1 | call 3 9 0 0 1", "0 2 1", 8)
	ordered(t, "load 2 0 0 | call 1 0 0 0 1 | op 3 1 1 34 | move 4 2", "1 0 2 3", 10)
	// the same with the first two the other way round is as bad as it is
	ordered(t, "call 1 0 0 0 1 | load 2 0 0 | op 3 1 1 34 | move 4 2 | move 5 2 | move 6 2 | move 7 2", "0 1 2 3 4 5 6", 13)
}

// movedBy: what an order makes of a row; the empty text where it is not taken.
func movedBy(t *testing.T, text string, order []int, want string) {
	t.Helper()
	l := instrs(text)
	moved, ok := impl.Reorder(l, order)
	if ok != (want != "") || !slices.Equal(moved, instrs(want)) {
		t.Errorf("Reorder(%s, %v) = %v, %v, want %s", text, order, moved, ok, want)
	}
	heldReorder(t, workedOf(l), order)
}

func TestReorderedRows(t *testing.T) {
	t.Parallel()
	text := "load 1 0 0 | move 2 1 | const 3 1 | const 4 2"
	movedBy(t, text, []int{0, 1, 2, 3}, text)
	movedBy(t, text, []int{0, 2, 3, 1}, "load 1 0 0 | const 3 1 | const 4 2 | move 2 1")
	movedBy(t, text, []int{3, 2, 0, 1}, "const 4 2 | const 3 1 | load 1 0 0 | move 2 1")
	movedBy(t, text, []int{2, 0, 3, 1}, "const 3 1 | load 1 0 0 | const 4 2 | move 2 1")
	// one stands ahead of what it needs
	movedBy(t, text, []int{1, 0, 2, 3}, "")
	movedBy(t, text, []int{1, 2, 3, 0}, "")
	movedBy(t, text, []int{3, 1, 2, 0}, "")
	for _, two := range []string{"load 1 0 0 | move 2 1", "move 2 1 | const 1 5", "const 1 5 | in 1 0", "load 1 0 0 | store 2 3 0", "store 2 3 0 | load 1 0 0", "store 1 2 0 | store 3 4 0"} {
		movedBy(t, two, []int{0, 1}, two)
		movedBy(t, two, []int{1, 0}, "")
		movedBy(t, two+"| in 9 9", []int{1, 2, 0}, "")
		movedBy(t, two+"| in 9 9", []int{2, 0, 1}, "in 9 9 |"+two)
	}
	movedBy(t, "load 1 0 0 | load 2 0 0", []int{1, 0}, "load 2 0 0 | load 1 0 0")
	movedBy(t, "store 1 2 0 | store 1 2 1", []int{1, 0}, "store 1 2 1 | store 1 2 0")
	movedBy(t, "in 1 0", []int{0}, "in 1 0")
}

// Numbers that stand twice, are missing, or are none of the row's.
func TestOrdersThatAreNoneOfRows(t *testing.T) {
	t.Parallel()
	text := "in 0 0 | in 1 0 | in 2 0 | in 3 0"
	movedBy(t, text, []int{3, 1, 0, 2}, "in 3 0 | in 1 0 | in 0 0 | in 2 0")
	for _, order := range [][]int{nil, {}, {0}, {0, 1}, {0, 1, 2}, {1, 2, 3}, {0, 1, 2, 3, 4}, {0, 1, 2, 3, 3}, {0, 1, 2, 3, 0}, {0, 0, 1, 2, 3}, {0, 1, 2, 2}, {0, 0, 0, 0}, {3, 3, 2, 1}, {1, 2, 3, 4}, {0, 1, 2, 4}, {-1, 0, 1, 2}, {0, 1, 2, -1}, {-1, 1, 2, 3}, {0, 1, 2, math.MaxInt64}, {math.MinInt64, 1, 2, 3}, {0, 1, 1 << 32, 3}, {0, 1, 2, 1<<32 + 3}, {0, 1, 2, 64}, {0, -1, 2, 3}, upTo(64), upTo(65), make([]int, 1<<16)} {
		movedBy(t, text, order, "")
	}
	movedBy(t, "in 0 0", []int{1}, "")
	movedBy(t, "in 0 0", []int{-1}, "")
	movedBy(t, "in 0 0", []int{0, 0}, "")
	movedBy(t, "in 0 0", nil, "")
	// of 64, from the last one to the first
	l, back := slices.Repeat(instrs("in 0 0"), 64), upTo(64)
	for at := range l {
		l[at].D = at
	}
	slices.Reverse(back)
	moved, ok := impl.Reorder(l, back)
	for at, i := range moved {
		if i.D != 63-at {
			t.Errorf("number %d is %v", at, i)
		}
	}
	if !ok || len(moved) != 64 {
		t.Errorf("%d, %v", len(moved), ok)
	}
	l[63].D = 0
	if moved, ok := impl.Reorder(l, back); ok || len(moved) > 0 {
		t.Errorf("the last one writes what the first one writes: %v", moved)
	}
}

// cut: the stretches of code.
func cut(t *testing.T, text, want string) {
	t.Helper()
	l := instrs(linked(text))
	got, ok := impl.BlocksOf(l)
	if told := toldRows(got); !ok || told != toldAgain(want) {
		t.Errorf("BlocksOf(%s) = %s, %v, want %s", toldCode(l), told, ok, want)
	}
	heldSchedule(t, l)
}

func TestStretchesBetweenWhatTurnsAway(t *testing.T) {
	t.Parallel()
	cut(t, "in 0 0 | end", "0 0")
	cut(t, "in 0 0 | in 1 0 | in 2 0 | end", "0 2")
	cut(t, "in 0 0 | in 1 0 | jump 0", "0 1")
	for _, line := range []string{"jump @e", "zero 0 @e @e", "barrier", "end"} {
		cut(t, "in 0 0 | in 1 0 |"+line+"| in 2 0 | in 3 0 | in 4 0 | e: end", "0 1 | 3 5")
		cut(t, line+"| in 2 0 | e: end", "1 1")
		cut(t, "in 2 0 |"+line+"| e: end", "0 0")
		cut(t, "in 2 0 |"+line+"|"+line+"| in 3 0 |"+line+"| e: end", "0 0 | 3 3")
	}
	// all sorts are in one stretch
	cut(t, "const 1 1 | move 1 1 | op 1 1 1 33 | call 1 1 1 1 10 | in 1 1 | load 1 1 1 | store 1 1 1 | not 1 1 | neg 1 1 | end", "0 8")
	// what is not reached has its stretches, too
	cut(t, "end | in 0 0 | in 0 0 | jump 0", "1 2")
}

func TestStretchesWhereBlocksBegin(t *testing.T) {
	t.Parallel()
	cut(t, "in 0 0 | in 1 0 | a: in 2 0 | in 3 0 | jump @a", "0 1 | 2 3")
	cut(t, "a: in 0 0 | in 1 0 | in 2 0 | in 3 0 | jump @a", "0 3")
	cut(t, "zero 0 @b @c | in 1 0 | in 2 0 | b: in 3 0 | in 4 0 | c: in 5 0 | end", "1 2 | 3 4 | 5 5")
	cut(t, "zero 0 @c @b | in 1 0 | in 2 0 | b: in 3 0 | in 4 0 | c: in 5 0 | end", "1 2 | 3 4 | 5 5")
	cut(t, "zero 0 @b @b | in 1 0 | b: in 2 0 | in 3 0 | end", "1 1 | 2 3")
	cut(t, "in 0 0 | b: in 1 0 | c: in 2 0 | in 3 0 | zero 0 @b @c | end", "0 0 | 1 1 | 2 3")
	// by what is not reached, and to what ends a stretch anyhow
	cut(t, "in 0 0 | a: in 1 0 | end | jump @a", "0 0 | 1 1")
	cut(t, "in 0 0 | in 1 0 | a: barrier | in 2 0 | jump @a", "0 1 | 3 3")
	cut(t, "in 0 0 | in 1 0 | barrier | a: in 2 0 | in 3 0 | jump @a", "0 1 | 3 4")
	// registers and Words are no numbers
	cut(t, "in 2 0 | const 0 2 | move 1 2 | store 2 2 2 | load 2 2 2 | zero 2 6 6 | end", "0 4")
	for name, form := range seams {
		at := instrs(linked(filled(form, "in 5 0 | in 5 0", "in 6 0 | in 6 0")))
		first := slices.Index(at, instrs("in 6 0")[0])
		begins := func(s []int) bool { return s[0] == first }
		if got, ok := impl.BlocksOf(at); !ok || !slices.ContainsFunc(got, begins) {
			t.Errorf("%s: %d is within a stretch of %v", name, first, got)
		}
		heldSchedule(t, at)
	}
	for _, form := range noSeams {
		at := instrs(linked(filled(form, "in 5 0 | in 5 0", "in 6 0 | in 6 0")))
		first := slices.Index(at, instrs("in 6 0")[0])
		within := func(s []int) bool { return s[0] < first && s[1] > first }
		if got, ok := impl.BlocksOf(at); !ok || !slices.ContainsFunc(got, within) {
			t.Errorf("%s: %d begins a stretch of %v", form, first, got)
		}
		heldSchedule(t, at)
	}
}

func TestCodeWithoutStretches(t *testing.T) {
	t.Parallel()
	for _, text := range []string{"end", "jump 0", "barrier | end", "zero 0 1 1 | end", "barrier | zero 5 0 3 | jump 0 | end | end | jump 2"} {
		cut(t, text, "")
		l := instrs(text)
		if got, ok := impl.BlocksOf(l); !ok || len(got) > 0 {
			t.Errorf("BlocksOf(%s) = %v, %v", text, got, ok)
		}
		if got, ok := impl.ScheduleCode(l); !ok || !slices.Equal(got, l) {
			t.Errorf("ScheduleCode(%s) = %v, %v", text, got, ok)
		}
	}
}

// pieces64: first and last numbers of a stretch that is cut behind every 64.
func pieces64(first, count int) string {
	var l []string
	for ; count > 0; first, count = first+64, count-64 {
		l = append(l, strconv.Itoa(first)+" "+strconv.Itoa(first+min(count, 64)-1))
	}
	return strings.Join(l, "|")
}

func TestStretchesAreCutBehind64(t *testing.T) {
	t.Parallel()
	if got := pieces64(5, 129); got != "5 68|69 132|133 133" {
		t.Error(got)
	}
	many := func(count int) string { return strings.Repeat("in 1 0 | ", count) }
	for _, count := range []int{1, 62, 63, 64, 65, 66, 127, 128, 129, 192, 193, 599} {
		cut(t, many(count)+"end", pieces64(0, count))
		if count < 590 {
			cut(t, "in 0 0 | barrier | "+many(count)+"end", "0 0|"+pieces64(2, count))
			cut(t, many(count)+"barrier | in 0 0 | end", pieces64(0, count)+"|"+strconv.Itoa(count+1)+" "+strconv.Itoa(count+1))
		}
	}
	// each stretch is counted from its own beginning
	cut(t, many(3)+"a: "+many(67)+"jump @a", "0 2|"+pieces64(3, 67))
	cut(t, many(64)+"a: "+many(64)+"jump @a", "0 63|64 127")
	cut(t, many(63)+"a: "+many(65)+"jump @a", "0 62|63 126|127 127")
	cut(t, many(65)+"a: "+many(63)+"jump @a", "0 63|64 64|65 127")
	cut(t, many(100)+"zero 0 @e @e |"+many(100)+"e: "+many(100)+"end", pieces64(0, 100)+"|"+pieces64(101, 100)+"|"+pieces64(201, 100))
}

// scheduled: the code with each stretch by its order.
func scheduled(t *testing.T, text, want string) {
	t.Helper()
	l := instrs(linked(text))
	got, ok := impl.ScheduleCode(l)
	if !ok || !slices.Equal(got, instrs(linked(want))) {
		t.Errorf("ScheduleCode(%s) = %s, %v, want %s", toldCode(l), toldCode(got), ok, want)
	}
	heldSchedule(t, l)
}

func TestSchedulesOfCode(t *testing.T) {
	t.Parallel()
	scheduled(t, "const 1 5 | load 2 0 0 | end", "load 2 0 0 | const 1 5 | end")
	scheduled(t, "load 1 0 0 | move 2 1 | const 3 1 | const 4 2 | end", "load 1 0 0 | const 3 1 | const 4 2 | move 2 1 | end")
	scheduled(t, "const 1 5 | load 2 0 0 | jump 0", "load 2 0 0 | const 1 5 | jump 0")
	// each by itself, and all else as it was
	for _, line := range []string{"jump @e", "zero 1 @e @e", "barrier", "end"} {
		scheduled(t, "const 1 5 | load 2 0 0 |"+line+"| const 3 5 | load 4 0 0 | const 5 5 | load 6 0 0 | e: end", "load 2 0 0 | const 1 5 |"+line+"| load 4 0 0 | load 6 0 0 | const 3 5 | const 5 5 | e: end")
	}
	for _, line := range []string{"zero 1 @e @f", "zero 1 @f @e"} {
		scheduled(t, "const 1 5 | load 2 0 0 |"+line+"| const 3 5 | load 4 0 0 | f: const 5 5 | load 6 0 0 | e: end", "load 2 0 0 | const 1 5 |"+line+"| load 4 0 0 | const 3 5 | f: load 6 0 0 | const 5 5 | e: end")
	}
	scheduled(t, "const 1 5 | a: load 2 0 0 | end | jump @a", "const 1 5 | a: load 2 0 0 | end | jump @a")
	scheduled(t, "const 1 5 | barrier | load 2 0 0 | end", "const 1 5 | barrier | load 2 0 0 | end")
	scheduled(t, "a: const 1 5 | load 2 0 0 | zero 1 @a @a | end", "a: load 2 0 0 | const 1 5 | zero 1 @a @a | end")
	// what is behind waits for nothing of what is ahead
	scheduled(t, "load 1 0 0 | barrier | move 2 1 | load 3 0 0 | end", "load 1 0 0 | barrier | load 3 0 0 | move 2 1 | end")
	// an order that would be worse
	fan := "load 2 0 0 | call 1 0 0 0 1 | op 3 1 1 34 | move 4 2 | move 5 2 | move 6 2 | move 7 2 | end"
	scheduled(t, fan, fan)
	// what is not reached
	scheduled(t, "end | const 1 5 | load 2 0 0 | end", "end | load 2 0 0 | const 1 5 | end")
}

func TestSchedulesCutBehind64(t *testing.T) {
	t.Parallel()
	many := ""
	for reg := range 63 {
		many += "in " + strconv.Itoa(100+reg) + " 0 | "
	}
	scheduled(t, many+"load 2 0 0 | end", "load 2 0 0 | "+many+"end")
	scheduled(t, many+"in 1 0 | load 2 0 0 | end", many+"in 1 0 | load 2 0 0 | end")
	scheduled(t, many+"in 1 0 | const 3 5 | load 2 0 0 | end", many+"in 1 0 | load 2 0 0 | const 3 5 | end")
	scheduled(t, "in 1 0 | barrier | "+many+"load 2 0 0 | in 3 0 | end", "in 1 0 | barrier | load 2 0 0 | "+many+"in 3 0 | end")
}
