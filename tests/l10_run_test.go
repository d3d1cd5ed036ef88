package tests

import (
	"math"
	"slices"
	"strconv"
	"strings"
	"testing"

	"loop.example/g00053/impl"
)

// What code does, written out.

// toldRanCode: buffers as whole numbers with a sign, and the steps; a code alone
// where there is nothing else.
func toldRanCode(r impl.Ran) string {
	if r.Code != 0 && len(r.Buffers) == 0 && r.Steps == 0 {
		return append(slices.Clone(runCodes), "RunStuck")[r.Code]
	}
	text := ""
	for _, buffer := range r.Buffers {
		text += toldWords(buffer, 'i') + " | "
	}
	return text + strconv.Itoa(r.Steps)
}

// does: what code leaves in a launch's buffers.
func does(t *testing.T, x impl.Launch, text, want string) {
	t.Helper()
	l := instrs(text)
	if got := toldRanCode(impl.RunCode(l, x)); got != want {
		t.Errorf("%s leaves %s, want %s", text, got, want)
	}
	heldRanCode(t, l, x)
}

// spread: a launch of groups of threads with one buffer of these words.
func spread(groups, size int, words ...int) impl.Launch {
	return impl.Launch{Groups: groups, Size: size, Buffers: [][]uint32{wholes(words...)}}
}

// makes: the word that instructions leave in register 9, which is 0 ahead of
// them.
func makes(t *testing.T, text string, want uint32) {
	t.Helper()
	l := instrs(text + " | const 0 0 | store 0 9 0 | end")
	got := impl.RunCode(l, spread(1, 1, 77))
	if !sameRan(got, impl.Ran{Buffers: [][]uint32{{want}}, Steps: len(l)}) {
		t.Errorf("%s makes %v, want %d", text, got, want)
	}
	heldRanCode(t, l, spread(1, 1, 77))
}

func TestWhatEachOpMakes(t *testing.T) {
	t.Parallel()
	makes(t, "barrier", 0)
	makes(t, "const 9 7", 7)
	makes(t, "const 9 4294967295", math.MaxUint32)
	makes(t, "const 8 7", 0)
	makes(t, "const 8 7 | move 9 8", 7)
	makes(t, "const 8 7 | move 9 8 | const 8 6", 7)
	makes(t, "const 8 7 | move 9 399", 0)
	makes(t, "const 399 7 | move 9 399", 7)
	makes(t, "const 1 7 | const 2 5 | op 9 1 2 41", 2)
	makes(t, "const 1 7 | const 2 5 | op 9 2 1 41", 1<<32-2)
	makes(t, "const 9 7 | op 9 9 9 33", 14)
	makes(t, "const 1 1 | const 2 2 | op 9 1 2 115", 1)
	makes(t, "const 1 1 | const 2 2 | op 9 1 2 79", 0)
	makes(t, "const 1 1065353216 | const 2 1069547520 | op 9 1 2 34", 1075838976)
	makes(t, "const 1 1065353216 | const 2 1069547520 | op 9 1 2 33", 2134900736)
	makes(t, "const 1 2143289345 | op 9 1 1 78", 0)
	makes(t, "const 1 2143289345 | op 9 1 1 77", 1)
	makes(t, "const 9 5 | const 1 7 | op 9 1 1 10", 0) // `%` of floats has no type
	makes(t, "const 9 5 | const 1 7 | op 9 1 1 11", 0) // nor of bools
	makes(t, "const 9 5 | const 1 7 | op 9 1 1 17", 0) // nor `&&` of whole numbers
	makes(t, "const 1 4294967289 | call 9 1 0 0 1", 7) // abs
	makes(t, "const 1 3212836864 | call 9 1 0 0 2", 1065353216)
	makes(t, "const 1 3 | call 9 1 0 0 5", 1077936128) // float
	makes(t, "const 1 1077936128 | call 9 1 0 0 6", 1077936128)
	makes(t, "const 1 1080033280 | call 9 1 0 0 18", 3) // int
	makes(t, "const 1 1080033280 | call 9 1 0 0 17", 1080033280)
	makes(t, "const 1 3 | const 2 4294967295 | call 9 1 2 0 25", 3) // max
	makes(t, "const 1 3 | const 2 4294967295 | call 9 2 1 0 29", math.MaxUint32)
	makes(t, "const 1 1082130432 | call 9 1 0 0 38", 1073741824) // sqrt
	makes(t, "const 9 5 | const 1 1082130432 | call 9 1 0 0 37", 0)
	makes(t, "const 1 1073741824 | const 2 1077936128 | const 3 1065353216 | call 9 1 2 3 10", 1088421888) // fma
	makes(t, "const 1 1073741824 | const 2 1077936128 | const 3 1065353216 | call 9 3 2 1 10", 1084227584)
	makes(t, "const 9 5 | call 9 1 2 3 9", 0)
}

func TestNotAndNeg(t *testing.T) {
	t.Parallel()
	for word, want := range map[uint32]uint32{0: 1, 1: 0, 2: 1, 3: 0, 1 << 31: 1, 1<<31 + 1: 0, math.MaxUint32: 0, math.MaxUint32 - 1: 1} {
		makes(t, "const 1 "+strconv.Itoa(int(word))+" | not 9 1", want)
	}
	for word, want := range map[uint32]uint32{0: 1 << 31, 1 << 31: 0, 1065353216: 3212836864, 3212836864: 1065353216, 1: 1<<31 + 1, 0x7f800000: 0xff800000, 0xff800000: 0x7f800000, impl.TheNaN: impl.TheNaN, 0x7f800001: impl.TheNaN, 0xffc00000: impl.TheNaN, math.MaxUint32: impl.TheNaN} {
		makes(t, "const 1 "+strconv.Itoa(int(word))+" | neg 9 1", want)
	}
}

// Each thread's own numbers, and the words of a launch.
func TestWhatIsGiven(t *testing.T) {
	t.Parallel()
	store := " | store 0 1 0 | end"
	does(t, spread(2, 3, 9, 9, 9, 9, 9, 9, 9), "in 0 0 | in 1 0"+store, "0 1 2 3 4 5 9 | 24")
	does(t, spread(2, 3, 9, 9, 9, 9, 9, 9, 9), "in 0 0 | in 1 1"+store, "0 1 2 0 1 2 9 | 24")
	does(t, spread(2, 3, 9, 9, 9, 9, 9, 9, 9), "in 0 0 | in 1 2"+store, "0 0 0 1 1 1 9 | 24")
	does(t, spread(2, 3, 9, 9, 9, 9, 9, 9, 9), "in 0 0 | in 1 3"+store, "3 3 3 3 3 3 9 | 24")
	for word := 4; word <= 999; word++ {
		if word > 30 && word < 990 {
			continue
		}
		for _, count := range []int{0, 1, 15, 16} {
			x := spread(1, 1, 9)
			for i := range count {
				x.Words = append(x.Words, uint32(100+i))
			}
			want := 0
			if word-4 < count {
				want = 96 + word
			}
			does(t, x, "in 1 "+strconv.Itoa(word)+store, strconv.Itoa(want)+" | 3")
		}
	}
}

// Places that are not there: nothing is written, 0 is read.
func TestPlacesOfCodeThatAreNotThere(t *testing.T) {
	t.Parallel()
	for _, place := range []uint32{3, 4, 63, 64, 65, 1 << 16, 1<<31 - 1, 1 << 31, math.MaxUint32, math.MaxUint32 - 1} {
		at := strconv.Itoa(int(place))
		does(t, spread(1, 1, 5, 6, 7), "const 0 "+at+" | const 1 9 | store 0 1 0 | end", "5 6 7 | 4")
		does(t, spread(1, 1, 5, 6, 7), "const 0 "+at+" | const 1 9 | load 1 0 0 | const 0 1 | store 0 1 0 | end", "5 0 7 | 6")
	}
	for place := range 3 {
		want := wholes(5, 6, 7)
		want[place] = 9
		does(t, spread(1, 1, 5, 6, 7), "const 0 "+strconv.Itoa(place)+" | const 1 9 | store 0 1 0 | end", toldWords(want, 'i')+" | 4")
		does(t, spread(1, 1, 5, 6, 7, 0), "const 0 "+strconv.Itoa(place)+" | load 1 0 0 | const 0 3 | store 0 1 0 | end", "5 6 7 "+strconv.Itoa(place+5)+" | 5")
	}
}

// Buffers that are not there, and each of sixteen that is.
func TestBuffersOfCode(t *testing.T) {
	t.Parallel()
	for count := range 17 {
		x := impl.Launch{Groups: 1, Size: 1}
		for i := range count {
			x.Buffers = append(x.Buffers, wholes(i+1, 0))
		}
		for _, buffer := range []int{0, 1, 2, 14, 15, 16, 17, 998, 999} {
			number := strconv.Itoa(buffer)
			l := instrs("const 0 1 | load 1 2 " + number + " | op 1 1 1 33 | store 0 1 " + number + " | end")
			want := impl.Ran{Steps: 5}
			for i := range count {
				want.Buffers = append(want.Buffers, wholes(i+1, 0))
			}
			if buffer < count {
				want.Buffers[buffer][1] = uint32(2 * (buffer + 1))
			}
			if got := impl.RunCode(l, x); !sameRan(got, want) {
				t.Errorf("buffer %d of %d: %v", buffer, count, got)
			}
		}
	}
	does(t, impl.Launch{Groups: 1, Size: 1, Buffers: [][]uint32{nil, {}, {1}}}, "load 1 0 0 | load 2 0 1 | load 3 0 2 | store 0 3 1 | end", " |  | 1 | 5")
}

// isBad: whether a launch is bad for code.
func isBad(t *testing.T, x impl.Launch, want bool) {
	t.Helper()
	got := impl.RunCode(instrs("end"), x)
	if want && !sameRan(got, impl.Ran{Code: impl.RunBad}) || !want && (got.Code != 0 || got.Steps != x.Groups*x.Size || !sameValues(got.Buffers, x.Buffers)) {
		t.Errorf("RunCode with %v: %v", x, got)
	}
	heldRanCode(t, instrs("end"), x)
}

// launchesForCode: launches at and beyond each limit, and whether they are bad.
func launchesForCode(t *testing.T, isBad func(*testing.T, impl.Launch, bool)) {
	t.Helper()
	for groups := -2; groups <= 10; groups++ {
		for size := -2; size <= 12; size++ {
			isBad(t, impl.Launch{Groups: groups, Size: size}, groups < 1 || groups > 4 || size < 1 || size > 8)
		}
	}
	for _, n := range wrongInts {
		isBad(t, impl.Launch{Groups: n, Size: 1}, n < 1 || n > 4)
		isBad(t, impl.Launch{Groups: 1, Size: n}, n < 1 || n > 8)
	}
	for _, count := range []int{0, 1, 15, 16, 17, 18, 100, 100000} {
		isBad(t, impl.Launch{Groups: 1, Size: 1, Words: make([]uint32, count)}, count > 16)
		isBad(t, impl.Launch{Groups: 1, Size: 1, Buffers: make([][]uint32, count)}, count > 16)
		isBad(t, impl.Launch{Groups: 4, Size: 8, Words: make([]uint32, count), Buffers: make([][]uint32, count)}, count > 16)
	}
	for _, count := range []int{0, 1, 63, 64, 65, 66, 100000} {
		for at := range 16 {
			x := impl.Launch{Groups: 1, Size: 1, Buffers: make([][]uint32, 16)}
			x.Buffers[at] = make([]uint32, count)
			isBad(t, x, count > 64)
		}
	}
}

func TestLaunchesForCode(t *testing.T) {
	t.Parallel()
	launchesForCode(t, isBad)
}

// Code that is not good is bad whatever the launch, and the other way round.
func TestRunsThatAreBad(t *testing.T) {
	t.Parallel()
	for _, text := range []string{"barrier", "const 0 0", "jump 1", "end | barrier", "const 400 0 | end", "zero 0 2 0 | end", "op 0 0 0 0 | end"} {
		for _, x := range []impl.Launch{{}, spread(1, 1), spread(4, 8, 1, 2), spread(5, 1), spread(1, 9)} {
			does(t, x, text, "RunBad")
		}
	}
	for _, l := range [][]impl.Instr{nil, {}, slices.Repeat(instrs("end"), 601)} {
		if got := impl.RunCode(l, spread(1, 1, 1)); !sameRan(got, impl.Ran{Code: impl.RunBad}) {
			t.Errorf("%d instructions: %v", len(l), got)
		}
	}
}

func TestJumps(t *testing.T) {
	t.Parallel()
	does(t, spread(1, 1, 0), "jump 2 | end | const 1 7 | store 0 1 0 | jump 1", "7 | 5")
	does(t, spread(1, 1, 0), "const 1 7 | zero 1 3 3 | store 0 1 0 | end", "7 | 4")
	does(t, spread(1, 1, 0), "const 1 7 | zero 2 3 3 | store 0 1 0 | end", "0 | 3")
	does(t, spread(1, 1, 0), "const 1 7 | zero 2 3 2 | store 0 1 0 | end", "0 | 3") // the third number says nothing here
	does(t, spread(1, 1, 0), "const 1 2147483648 | zero 1 3 3 | store 0 1 0 | end", "-2147483648 | 4")
	does(t, spread(1, 4, 0, 0, 0, 0), "in 0 0 | zero 0 4 4 | store 0 0 0 | end | const 1 9 | store 0 1 0 | end", "9 1 2 3 | 17")
	does(t, spread(1, 3, 0, 0, 0), "in 0 0 | const 3 1 | zero 0 6 6 | op 0 0 3 41 | op 4 4 3 33 | jump 2 | in 0 0 | store 0 4 0 | end", "0 1 2 | 30")
	does(t, spread(1, 1, 0), "const 1 5 | const 2 1 | op 1 1 2 41 | op 3 3 2 33 | zero 1 6 6 | jump 2 | store 0 3 0 | end", "5 | 23")
}

// Registers are 0 at first in each thread, and its own.
func TestRegistersOfThreads(t *testing.T) {
	t.Parallel()
	does(t, spread(2, 2, 0, 0, 0, 0), "in 0 0 | const 2 5 | op 1 1 2 33 | store 0 1 0 | end", "5 5 5 5 | 20")
	does(t, spread(1, 3, 0, 0, 0), "in 0 0 | op 1 0 0 33 | barrier | store 0 1 0 | end", "0 2 4 | 15")
	does(t, spread(2, 2, 9, 9, 9, 9), "in 0 0 | store 0 399 0 | const 399 1 | end", "0 0 0 0 | 16")
}

// Threads of a group go on from their barrier when all have come to it.
func TestBarriersOfCode(t *testing.T) {
	t.Parallel()
	// each thread reads what the one behind it wrote
	ring := "in 0 0 | in 1 1 | const 2 1 | op 3 1 2 33 | in 4 3 | op 3 3 4 9 | in 5 2 | op 5 5 4 29 | op 3 5 3 33 | op 6 0 2 33 | store 0 6 0 | %s | load 7 3 0 | %s | store 0 7 0 | end"
	with := func(a, b string) string { return strings.Replace(strings.Replace(ring, "%s", a, 1), "%s", b, 1) }
	does(t, spread(2, 3, 0, 0, 0, 0, 0, 0), with("barrier", "barrier"), "2 3 1 5 6 4 | 96")
	does(t, spread(2, 3, 0, 0, 0, 0, 0, 0), with("move 9 9", "move 9 9"), "0 0 0 0 0 0 | 96")
	does(t, spread(1, 2, 0, 0), "barrier | barrier | barrier | end", "0 0 | 8")
	does(t, spread(1, 8), "barrier | end", " | 16")
	does(t, spread(4, 1), "barrier | end", " | 8")
	// groups do not wait for each other
	does(t, spread(2, 1, 0, 0), "in 0 0 | const 1 7 | store 0 1 0 | barrier | const 2 1 | load 3 2 0 | store 0 3 0 | end", "0 7 | 16")
	// one barrier, passed again and again
	does(t, spread(1, 2, 0), "const 1 3 | const 2 1 | barrier | load 3 0 0 | op 3 3 2 33 | store 0 3 0 | op 1 1 2 41 | zero 1 9 9 | jump 2 | end", "6 | 46")
}

// Threads part on their way, but come to one barrier.
func TestBarriersThatAllComeTo(t *testing.T) {
	t.Parallel()
	does(t, spread(1, 4, 0, 0, 0, 0), "in 0 0 | zero 0 3 3 | const 1 5 | barrier | store 0 1 0 | end", "0 5 5 5 | 23")
	does(t, spread(1, 2, 0, 0), "in 0 0 | zero 0 4 4 | const 1 5 | jump 5 | const 1 6 | barrier | store 0 1 0 | end", "6 5 | 13")
	// to unlike ends: these are ends all the same
	does(t, spread(1, 2, 0, 0), "in 0 0 | zero 0 4 4 | const 1 5 | end | end", "0 0 | 7")
	does(t, spread(1, 3, 0), "in 0 0 | const 1 1 | op 2 0 1 77 | zero 2 5 5 | end | zero 0 8 8 | end | end | end", "0 | 17")
}

func TestThreadsThatGetStuck(t *testing.T) {
	t.Parallel()
	// a barrier that some pass by
	does(t, spread(1, 2, 0, 0), "in 0 0 | zero 0 3 3 | barrier | end", "RunStuck")
	does(t, spread(1, 2, 0, 0), "in 0 0 | not 0 0 | zero 0 4 4 | barrier | end", "RunStuck")
	does(t, spread(1, 1, 0, 0), "in 0 0 | zero 0 3 3 | barrier | end", "0 0 | 3")
	// to two barriers, either way round
	does(t, spread(1, 2, 0, 0), "in 0 0 | zero 0 4 4 | barrier | end | barrier | end", "RunStuck")
	does(t, spread(1, 2, 0, 0), "in 0 0 | not 0 0 | zero 0 5 5 | barrier | end | barrier | end", "RunStuck")
	does(t, spread(1, 2, 0, 0), "in 0 0 | zero 0 3 3 | barrier | barrier | end", "RunStuck")
	does(t, spread(2, 1, 0, 0), "in 0 0 | zero 0 3 3 | barrier | barrier | end", "0 0 | 9") // groups are each for themselves
	// the last of eight, and the second group
	does(t, spread(1, 8), "in 0 1 | const 1 7 | op 0 0 1 77 | zero 0 5 5 | barrier | end", "RunStuck")
	does(t, spread(1, 7), "in 0 1 | const 1 7 | op 0 0 1 77 | zero 0 5 5 | barrier | end", " | 35")
	does(t, spread(2, 2), "in 0 0 | const 1 3 | op 0 0 1 77 | zero 0 5 5 | barrier | end", "RunStuck")
	// behind a barrier that all have passed
	does(t, spread(1, 2), "in 0 0 | barrier | zero 0 4 4 | barrier | end", "RunStuck")
	does(t, spread(1, 2), "in 0 0 | barrier | barrier | zero 0 5 5 | barrier | end", "RunStuck")
	// each is held against the one ahead, so a third one that is like the first does not help
	does(t, spread(1, 3), "in 0 0 | const 1 1 | op 0 0 1 77 | zero 0 5 5 | barrier | end", "RunStuck")
}

// Of several codes the one that is met first.
func TestTheCodeThatIsMetFirst(t *testing.T) {
	t.Parallel()
	// thread 0 waits, thread 1 ends, thread 2 would go round: stuck ahead of that
	does(t, spread(1, 3), "in 0 0 | zero 0 5 5 | const 1 2 | op 1 0 1 77 | zero 1 6 7 | barrier | end | jump 7", "RunStuck")
	// thread 0 waits, thread 1 goes round, thread 2 would end
	does(t, spread(1, 3), "in 0 0 | zero 0 5 5 | const 1 2 | op 1 0 1 77 | zero 1 7 7 | barrier | end | jump 7", "RunSteps")
	// thread 0 goes round
	does(t, spread(1, 2), "in 0 0 | zero 0 3 3 | barrier | jump 3", "RunSteps")
	// thread 1 goes round, thread 0 waits
	does(t, spread(1, 2), "in 0 0 | zero 0 3 3 | jump 2 | barrier | end", "RunSteps")
	// group 0 gets stuck, group 1 would go round; and the other way
	does(t, spread(2, 2), "in 0 2 | in 1 1 | zero 0 4 4 | jump 3 | zero 1 6 6 | barrier | end", "RunStuck")
	does(t, spread(2, 2), "in 0 2 | in 1 1 | zero 0 6 6 | zero 1 5 5 | barrier | end | jump 6", "RunSteps")
	does(t, spread(2, 2), "in 0 2 | in 1 1 | not 0 0 | zero 0 5 5 | jump 4 | zero 1 7 7 | barrier | end", "RunSteps")
}

func TestCodeThatGoesRound(t *testing.T) {
	t.Parallel()
	for _, text := range []string{"jump 0", "barrier | jump 0", "move 0 0 | jump 0", "zero 0 0 1 | end", "in 0 0 | store 0 0 0 | jump 1", "jump 1 | jump 0", "end | jump 1 | jump 0"} {
		for _, x := range []impl.Launch{spread(1, 1), spread(4, 8, 1, 2, 3), spread(1, 8)} {
			want := "RunSteps"
			if strings.HasPrefix(text, "end") {
				want = toldRanCode(impl.Ran{Buffers: x.Buffers, Steps: x.Groups * x.Size})
			}
			does(t, x, text, want)
		}
	}
}

// counting: lines, and behind them a loop, so that the instruction behind it all
// is the step of that number; three steps a turn.
func counting(lines string, steps int) string {
	ahead := strings.Count(lines, "|")
	steps -= ahead + 5
	lines += strings.Repeat("move 9 9 | ", steps%3)
	again, end := strconv.Itoa(ahead+steps%3+2), strconv.Itoa(ahead+steps%3+5)
	return lines + "const 0 " + strconv.Itoa(steps/3+1) + " | const 1 1 | op 0 0 1 41 | zero 0 " + end + " " + end + " | jump " + again + " | "
}

// Just as many steps as there may be, and one more.
func TestStepsAtTheirLimit(t *testing.T) {
	t.Parallel()
	for steps, want := range map[int]string{20: "5 | 20", 21: "5 | 21", 22: "5 | 22", 99999: "5 | 99999", 100000: "5 | 100000", 100001: "RunSteps", 100002: "RunSteps"} {
		does(t, spread(1, 1, 5), counting("", steps)+"end", want)
		does(t, spread(1, 1, 5), counting("", steps-1)+"barrier | end", want)
		does(t, spread(1, 1, 5), counting("barrier | ", steps-1)+"barrier | end", want)
		does(t, spread(1, 1, 5), counting("", steps-1)+"store 9 9 3 | end", want)
	}
	// the steps of all threads and groups count together
	does(t, spread(2, 2, 5), counting("", 25000)+"end", "5 | 100000")
	does(t, spread(2, 2, 5), counting("", 25001)+"end", "RunSteps")
	does(t, spread(4, 8, 5), counting("", 3125)+"end", "5 | 100000")
	does(t, spread(4, 8, 5), counting("", 3126)+"end", "RunSteps")
	does(t, spread(4, 5, 5), counting("", 4999)+"barrier | end", "5 | 100000")
	does(t, spread(4, 5, 5), counting("", 5000)+"barrier | end", "RunSteps")
}

// Thread 0 ends, thread 1 comes to a barrier: stuck, where that is a step that may
// still be taken.
func TestStuckAtTheLastStep(t *testing.T) {
	t.Parallel()
	part := func(steps int, more string) string {
		text := counting("in 7 0 | ", steps)
		end := strconv.Itoa(strings.Count(text+more, "|") + 2)
		return text + "zero 7 " + end + " " + end + " | " + more + "barrier | end"
	}
	does(t, spread(1, 2), part(49998, ""), "RunStuck")
	does(t, spread(1, 2), part(49999, ""), "RunStuck") // at step 100000
	does(t, spread(1, 2), part(49999, "move 9 9 | "), "RunSteps")
	does(t, spread(1, 2), part(50000, ""), "RunSteps")
	does(t, spread(1, 1), part(99999, ""), " | 100000")
	does(t, spread(1, 1), part(100000, ""), "RunSteps")
}
