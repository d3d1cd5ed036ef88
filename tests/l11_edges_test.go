package tests

import (
	"math"
	"slices"
	"strconv"
	"strings"
	"testing"

	"loop.example/g00053/impl"
)

// The edges that chapter 11 names, with what is told written out.

// linked: lines with `|` between each two, in which `x:` ahead of one marks it,
// `@x` is its number, and `log n` lays n behind what was laid there before: the
// word at place 0 says how many these are, register 4 is 0, and register 6 is 1.
func linked(text string) string {
	var lines []string
	numbers := map[string]int{}
	for _, line := range strings.Split(text, "|") {
		words := strings.Fields(line)
		for strings.HasSuffix(words[0], ":") {
			numbers[strings.TrimSuffix(words[0], ":")] = len(lines)
			words = words[1:]
		}
		if words[0] == "log" {
			lines = append(lines, "const 7 "+words[1], "load 5 4 0", "op 5 5 6 33", "store 4 5 0", "store 5 7 0")
		} else {
			lines = append(lines, strings.Join(words, " "))
		}
	}
	for at, line := range lines {
		words := strings.Fields(line)
		for n, word := range words {
			if name, ok := strings.CutPrefix(word, "@"); ok {
				number, known := numbers[name]
				if !known {
					panic(line)
				}
				words[n] = strconv.Itoa(number)
			}
		}
		lines[at] = strings.Join(words, " ")
	}
	return strings.Join(lines, " | ")
}

// toldWarped: buffers as whole numbers with a sign, then issues, work and the most
// entries, and the branches; a code alone where there is nothing else.
func toldWarped(w impl.Warped, branches []impl.Branch) string {
	if w.Code != 0 && len(w.Buffers) == 0 && w.Issues == 0 && w.Work == 0 && w.Deepest == 0 && len(branches) == 0 {
		return append(slices.Clone(runCodes), "RunStuck")[w.Code]
	}
	text := ""
	for _, buffer := range w.Buffers {
		text += toldWords(buffer, 'i') + " | "
	}
	text += strconv.Itoa(w.Issues) + " " + strconv.Itoa(w.Work) + " " + strconv.Itoa(w.Deepest)
	for _, b := range branches {
		text += ", " + strconv.Itoa(b.At) + " " + strconv.Itoa(b.Taken) + " " + strconv.Itoa(b.Split)
	}
	return text
}

// warps: what lanes leave that go through code together.
func warps(t *testing.T, x impl.Launch, text, want string) {
	t.Helper()
	l := instrs(linked(text))
	got, branches := heldWarps(t, l, x)
	if told := toldWarped(got, branches); told != want {
		t.Errorf("%s: %s, want %s", text, told, want)
	}
}

// Each op that writes a register, with all lanes on, with some, with one and with
// none; lanes below a bound, or those from it on.
func TestOpsWithSomeLanesOn(t *testing.T) {
	t.Parallel()
	forms := map[string]func(lane uint32) uint32{
		"const 9 7":       func(uint32) uint32 { return 7 },
		"move 9 0":        func(lane uint32) uint32 { return lane },
		"op 9 0 0 33":     func(lane uint32) uint32 { return 2 * lane },
		"op 9 4 0 41":     func(lane uint32) uint32 { return -lane },
		"call 9 0 0 0 5":  func(lane uint32) uint32 { return math.Float32bits(float32(lane)) },
		"call 9 0 8 0 29": func(lane uint32) uint32 { return min(lane, 3) },
		"in 9 0":          func(lane uint32) uint32 { return lane },
		"in 9 1":          func(lane uint32) uint32 { return lane },
		"in 9 2":          func(uint32) uint32 { return 0 },
		"in 9 4":          func(uint32) uint32 { return 44 },
		"in 9 5":          func(uint32) uint32 { return 0 },
		"load 9 0 1":      func(lane uint32) uint32 { return 100 + lane },
		"load 9 0 2":      func(uint32) uint32 { return 0 },
		"not 9 0":         func(lane uint32) uint32 { return 1 - lane%2 },
		"neg 9 0":         func(lane uint32) uint32 { return 1<<31 + lane },
	}
	for form, makes := range forms {
		for size := 1; size <= 8; size++ {
			for bound := range size + 1 {
				for _, below := range []bool{true, false} {
					test := map[bool]string{true: "61", false: "85"}[below] // `<` and `>=`
					x := impl.Launch{Groups: 1, Size: size, Words: wholes(44), Buffers: [][]uint32{make([]uint32, 8), wholes(100, 101, 102, 103, 104, 105, 106, 107)}}
					l := instrs(linked("in 0 1 | const 1 " + strconv.Itoa(bound) + " | const 8 3 | const 9 55 | op 2 0 1 " + test + " | zero 2 @c @c | " + form + " | c: store 0 9 0 | end"))
					want := impl.Warped{Buffers: [][]uint32{make([]uint32, 8), x.Buffers[1]}, Issues: 8, Work: 8 * size, Deepest: 1}
					on := 0
					for lane := range size {
						want.Buffers[0][lane] = 55
						if (lane < bound) == below {
							on++
							want.Buffers[0][lane] = makes(uint32(lane))
						}
					}
					branch := impl.Branch{At: 5, Taken: 1}
					if on > 0 {
						want.Issues++
						want.Work += on
					}
					if on > 0 && on < size {
						want.Deepest, branch.Split = 3, 1
					}
					got, branches := heldWarps(t, l, x)
					if !sameWarped(got, want) || !slices.Equal(branches, []impl.Branch{branch}) {
						t.Errorf("%s with %d of %d lanes: %v, %v, want %v", form, on, size, got, branches, want)
					}
				}
			}
		}
	}
}

// Of several lanes that write one word the last one is left.
func TestLanesWriteInOrder(t *testing.T) {
	t.Parallel()
	warps(t, spread(1, 8, 9), "in 0 1 | store 4 0 0 | end", "7 | 3 24 1")
	warps(t, spread(1, 1, 9), "in 0 1 | store 4 0 0 | end", "0 | 3 3 1")
	warps(t, spread(4, 3, 9), "in 0 0 | store 4 0 0 | end", "11 | 12 36 1")
	warps(t, spread(1, 8, 9), "in 0 1 | const 1 5 | op 2 0 1 61 | zero 2 @c @c | store 4 0 0 | c: end", "4 | 6 45 3, 3 1 1")
	warps(t, spread(1, 8, 9), "in 0 1 | const 1 5 | op 2 0 1 61 | zero 2 @b @c | jump @c | b: store 4 0 0 | c: end", "7 | 7 48 3, 3 1 1")
	// all lanes read ahead of the next instruction, so that one step is not seen by those behind
	warps(t, spread(1, 4, 7, 0, 0, 0, 0), "in 0 1 | const 6 1 | load 1 0 0 | op 2 0 6 33 | store 2 1 0 | end", "7 7 0 0 0 | 6 24 1")
	warps(t, spread(1, 4, 7), "const 6 1 | load 1 4 0 | op 1 1 6 33 | store 4 1 0 | end", "8 | 5 20 1")
}

// Where all lanes have 0, where none has, and where they part: the others go
// first, then those that have 0, then all from the join on.
func TestLanesThatPart(t *testing.T) {
	t.Parallel()
	choice := "const 6 1 | in 0 1 | %s | zero 1 @b @c | log 1 | jump @c | b: log 2 | c: log 3 | end"
	with := func(line string) string { return strings.Replace(choice, "%s", line, 1) }
	warps(t, spread(1, 3, 0, 0, 0, 0, 0), with("const 1 0"), "2 2 3 0 0 | 15 45 1, 3 1 0")
	warps(t, spread(1, 3, 0, 0, 0, 0, 0), with("const 1 9"), "2 1 3 0 0 | 16 48 1, 3 1 0")
	warps(t, spread(1, 3, 0, 0, 0, 0, 0), with("move 1 0"), "3 1 2 3 0 | 21 47 3, 3 1 1")
	warps(t, spread(1, 3, 0, 0, 0, 0, 0), with("not 1 0"), "3 1 2 3 0 | 21 47 3, 3 1 1")
	warps(t, spread(1, 1, 0, 0, 0, 0, 0), with("move 1 0"), "2 2 3 0 0 | 15 15 1, 3 1 0")
	warps(t, spread(1, 2, 0, 0, 0, 0, 0), with("move 1 0"), "3 1 2 3 0 | 21 31 3, 3 1 1")
	warps(t, spread(1, 8, 0, 0, 0, 0, 0), with("move 1 0"), "3 1 2 3 0 | 21 127 3, 3 1 1")
	// not by the sign, nor by the last bit
	warps(t, spread(1, 2, 0, 0, 0, 0, 0), with("const 1 2147483648"), "2 1 3 0 0 | 16 32 1, 3 1 0")
	warps(t, spread(1, 2, 0, 0, 0, 0, 0), with("const 1 2"), "2 1 3 0 0 | 16 32 1, 3 1 0")
	// those that have 0 go to a number ahead of the IZero
	back := "const 6 1 | in 0 1 | jump @z | b: log 2 | jump @c | z: zero 0 @b @c | log 1 | c: log 3 | end"
	warps(t, spread(1, 3, 0, 0, 0, 0, 0), back, "3 1 2 3 0 | 21 46 3, 9 1 1")
	warps(t, spread(1, 1, 0, 0, 0, 0, 0), back, "2 2 3 0 0 | 16 16 1, 9 1 0")
	// the join ahead of the IZero
	back = "const 6 1 | in 0 1 | jump @z | c: log 3 | end | z: zero 0 @b @c | log 1 | jump @c | b: log 2 | jump @c"
	warps(t, spread(1, 3, 0, 0, 0, 0, 0), back, "3 1 2 3 0 | 22 48 3, 9 1 1")
	warps(t, spread(1, 1, 0, 0, 0, 0, 0), back, "2 2 3 0 0 | 16 16 1, 9 1 0")
}

// B and C at one number, C right behind the IZero, both there, and C at the IZero
// itself.
func TestJoinsNearTheirZero(t *testing.T) {
	t.Parallel()
	warps(t, spread(1, 3, 0, 0, 0, 0), "const 6 1 | in 0 1 | zero 0 @c @c | log 1 | c: log 3 | end", "2 1 3 0 | 14 37 3, 2 1 1")
	warps(t, spread(1, 3, 0, 0, 0, 0), "const 6 1 | in 0 1 | zero 0 @b @c | c: log 3 | end | b: log 2 | jump @c", "2 2 3 0 | 15 33 2, 2 1 1")
	warps(t, spread(1, 3, 0, 0, 0, 0), "const 6 1 | in 0 1 | zero 0 @c @c | c: log 3 | end", "1 3 0 0 | 9 27 1, 2 1 1")
	warps(t, spread(1, 1, 0, 0, 0, 0), "const 6 1 | in 0 1 | zero 0 @c @c | c: log 3 | end", "1 3 0 0 | 9 9 1, 2 1 0")
	warps(t, spread(1, 3, 0, 0, 0, 0), "const 6 1 | in 0 1 | z: zero 0 @b @z | log 3 | end | b: log 2 | const 0 1 | jump @z", "3 3 2 3 | 23 35 3, 2 2 1")
	warps(t, spread(1, 3, 0, 0, 0, 0), "const 6 1 | in 0 1 | z: zero 0 @z @c | log 1 | c: log 3 | end", "RunSteps")
	// B behind C: those that have 0 do not come to the join but by their end
	warps(t, spread(1, 3, 0, 0, 0, 0, 0), "const 6 1 | in 0 1 | zero 0 @b @c | log 1 | c: log 3 | b: log 2 | end", "4 1 2 3 2 | 25 47 3, 2 1 1")
}

// The last instruction may be the join, and an entry that meets its join is not
// issued there.
func TestEntriesAtTheirJoin(t *testing.T) {
	t.Parallel()
	warps(t, spread(1, 2, 0), "in 0 1 | zero 0 @c @c | jump @c | c: end", "0 | 4 7 3, 1 1 1")
	warps(t, spread(1, 2, 0), "in 0 1 | zero 0 @b @c | jump @c | b: move 1 1 | c: end", "0 | 5 8 3, 1 1 1")
	// one that goes over its join
	warps(t, spread(1, 2, 0, 0, 0, 0, 0), "const 6 1 | in 0 1 | zero 0 @b @c | jump @e | b: log 2 | c: log 3 | e: log 4 | end", "4 4 2 3 4 | 26 29 3, 2 1 1")
	warps(t, spread(1, 2, 0, 0, 0, 0, 0), "const 6 1 | in 0 1 | zero 0 @b @c | log 1 | c: log 3 | end | b: jump @e | e: log 4 | end", "3 1 4 3 0 | 21 24 3, 2 1 1")
	// two choices with one join, and one within the other
	warps(t, spread(1, 4, 0, 0, 0, 0, 0, 0), "const 6 1 | const 8 2 | in 0 1 | op 1 0 8 13 | op 2 0 6 13 | zero 1 @b @c | zero 2 @d @c | log 1 | jump @c | d: log 2 | jump @c | b: zero 2 @f @c | log 3 | jump @c | f: log 4 | c: log 5 | end", "5 1 2 3 4 5 | 37 75 5, 5 1 1, 6 1 1, 19 1 1")
	warps(t, spread(1, 4, 0, 0, 0, 0, 0, 0), "const 6 1 | const 8 2 | in 0 1 | op 1 0 8 13 | op 2 0 6 13 | zero 1 @b @c | zero 2 @d @d | log 1 | d: log 2 | jump @c | b: log 3 | c: log 4 | end", "4 1 2 3 4 0 | 29 77 5, 5 1 1, 6 1 1")
}

// Lanes that end are taken out of all entries: in the one entry, in the other one,
// in both, and within entries that lie on others.
func TestLanesThatEndApart(t *testing.T) {
	t.Parallel()
	begin := "const 6 1 | const 8 2 | in 0 1 | op 1 0 8 13 | op 2 0 6 13 | "
	warps(t, spread(1, 3, 0, 0, 0, 0, 0), "const 6 1 | in 0 1 | zero 0 @b @c | log 1 | end | b: log 2 | c: log 3 | end", "3 1 2 3 0 | 20 32 3, 2 1 1")
	warps(t, spread(1, 3, 0, 0, 0, 0, 0), "const 6 1 | in 0 1 | zero 0 @b @c | log 1 | jump @c | b: log 2 | end | c: log 3 | end", "3 1 2 3 0 | 21 39 3, 2 1 1")
	warps(t, spread(1, 3, 0, 0, 0, 0, 0), "const 6 1 | in 0 1 | zero 0 @b @c | log 1 | end | b: log 2 | end | c: log 3 | end", "2 1 2 0 0 | 15 27 3, 2 1 1")
	warps(t, spread(1, 2, 0), "in 0 1 | zero 0 @b @b | end | b: end", "0 | 4 6 3, 1 1 1")
	// the two upon the one with lanes 2 and 3 both end: nothing goes on with these
	warps(t, spread(1, 4, 0, 0, 0, 0, 0), begin+"zero 1 @b @c | zero 2 @d @e | end | d: end | e: log 1 | jump @c | b: log 2 | c: log 3 | end", "2 2 3 0 0 | 20 50 5, 5 1 1, 6 1 1")
	// one of them ends: lane 2 goes on alone, then with 0 and 1
	warps(t, spread(1, 4, 0, 0, 0, 0, 0), begin+"zero 1 @b @c | zero 2 @e @e | end | e: log 1 | jump @c | b: log 2 | c: log 3 | end", "3 1 2 3 0 | 25 61 5, 5 1 1, 6 1 1")
	// the other one ends: lane 3
	warps(t, spread(1, 4, 0, 0, 0, 0, 0), begin+"zero 1 @b @c | zero 2 @d @e | jump @e | d: end | e: log 1 | jump @c | b: log 2 | c: log 3 | end", "3 1 2 3 0 | 26 62 5, 5 1 1, 6 1 1")
	// those of the upper entries end in the lower one
	warps(t, spread(1, 4, 0, 0, 0, 0, 0), begin+"zero 1 @b @c | zero 2 @e @e | log 1 | e: end | b: log 2 | c: log 3 | end", "3 1 2 3 0 | 24 55 5, 5 1 1, 6 1 1")
	// lanes 0 and 1 end while nothing lies on them but their own
	warps(t, spread(1, 4, 0, 0, 0, 0, 0), begin+"zero 1 @b @c | jump @c | b: zero 2 @d @d | log 1 | end | d: end | c: log 3 | end", "2 1 3 0 0 | 21 47 4, 5 1 1, 7 1 1")
	// an end that is a join
	warps(t, spread(1, 4, 0, 0, 0, 0, 0), begin+"zero 1 @b @b | zero 2 @b @b | log 1 | b: end", "1 1 0 0 0 | 13 35 5, 5 1 1, 6 1 1")
}

// Lanes leave a loop one after the other, and wait for the last one.
func TestLoopsThatLanesLeave(t *testing.T) {
	t.Parallel()
	loop := "const 6 1 | in 0 %s | z: zero 0 @c @c | op 0 0 6 41 | log 1 | jump @z | c: log 3 | end"
	by := func(word string) string { return strings.Replace(loop, "%s", word, 1) }
	warps(t, spread(1, 3, 0, 0, 0, 0, 0), by("1"), "3 1 1 3 0 | 25 51 5, 2 3 2")
	warps(t, spread(1, 4, 0, 0, 0, 0, 0), by("1"), "4 1 1 1 3 | 33 84 7, 2 4 3")
	warps(t, spread(1, 1, 0, 0, 0, 0, 0), by("1"), "1 3 0 0 0 | 9 9 1, 2 1 0")
	warps(t, spread(1, 3, 0, 0, 0, 0, 0), by("3"), "4 1 1 1 3 | 33 99 1, 2 4 0") // all leave at once
	warps(t, spread(1, 3, 0, 0, 0, 0, 0), by("2"), "1 3 0 0 0 | 9 27 1, 2 1 0")  // none goes in
	// the last lane leaves first
	warps(t, spread(1, 3, 0, 0, 0, 0, 0), "const 6 1 | in 0 1 | in 1 3 | op 0 1 0 41 | z: zero 0 @c @c | op 0 0 6 41 | log 1 | jump @z | c: log 3 | end", "4 1 1 1 3 | 35 81 5, 4 4 2")
	// what leaves goes on elsewhere ahead of the join, one after the other, the last one first
	warps(t, spread(1, 3, 0, 0, 0, 0, 0), "const 6 1 | in 0 1 | in 9 1 | z: zero 0 @b @c | op 0 0 6 41 | jump @z | b: load 5 4 0 | op 5 5 6 33 | store 4 5 0 | store 5 9 0 | c: log 7 | end", "4 2 1 0 7 | 28 51 5, 3 3 2")
	// lanes that leave by their end
	warps(t, spread(1, 3, 0, 0, 0, 0, 0), "const 6 1 | in 0 1 | z: zero 0 @c @c | op 0 0 6 41 | log 1 | jump @z | c: end", "2 1 1 0 0 | 20 36 5, 2 3 2")
	warps(t, spread(1, 3, 0, 0, 0, 0, 0), "const 6 1 | in 0 1 | z: zero 0 @b @c | op 0 0 6 41 | log 1 | jump @z | b: end | c: end", "2 1 1 0 0 | 22 36 5, 2 3 2")
	// a loop in a loop
	warps(t, spread(1, 3, 0, 0, 0, 0, 0, 0), "const 6 1 | in 0 1 | z: zero 0 @c @c | move 1 0 | y: zero 1 @d @d | log 1 | op 1 1 6 41 | jump @y | d: log 2 | op 0 0 6 41 | jump @z | c: log 3 | end", "6 1 1 2 1 2 | 53 89 5, 2 3 2, 4 5 1")
}

// The most entries that there can be: each time lanes part there are two more,
// and the topmost one has fewer lanes.
func TestMostEntries(t *testing.T) {
	t.Parallel()
	for size := 1; size <= 8; size++ {
		got, branches := heldWarps(t, instrs(linked("in 0 1 | const 6 1 | z: zero 0 @c @c | op 0 0 6 41 | jump @z | c: end")), spread(1, size))
		if got.Code != 0 || got.Deepest != 2*size-1 || !slices.Equal(branches, []impl.Branch{{At: 2, Taken: size, Split: size - 1}}) {
			t.Errorf("%d lanes: %v, %v", size, got, branches)
		}
		// the first lane left over: those that have 0 leave a lane each
		got, branches = heldWarps(t, instrs(linked("in 0 1 | in 1 3 | const 6 1 | op 2 1 6 41 | z: op 3 0 2 5 | zero 3 @b @c | op 2 2 6 41 | jump @z | b: move 9 9 | c: end")), spread(1, size))
		if got.Code != 0 || got.Deepest != 2*size-1 || branches[0].Split != size-1 {
			t.Errorf("%d lanes: %v, %v", size, got, branches)
		}
	}
}

func TestBarriersOfWarps(t *testing.T) {
	t.Parallel()
	warps(t, spread(1, 8), "barrier | end", " | 2 16 1")
	warps(t, spread(1, 1), "barrier | barrier | barrier | end", " | 4 4 1")
	warps(t, spread(4, 2), "barrier | end", " | 8 16 1")
	// lanes that have come together, at the join itself and behind it
	warps(t, spread(1, 3), "in 0 1 | zero 0 @c @c | move 1 1 | c: barrier | end", " | 5 14 3, 1 1 1")
	warps(t, spread(1, 3), "in 0 1 | zero 0 @b @c | jump @c | b: move 1 1 | c: move 1 1 | barrier | end", " | 7 18 3, 1 1 1")
	warps(t, spread(1, 3), "const 6 1 | in 0 1 | z: zero 0 @c @c | op 0 0 6 41 | jump @z | c: barrier | end", " | 11 24 5, 2 3 2")
	// in a loop that all go through as often
	warps(t, spread(1, 3), "const 6 1 | in 0 3 | z: zero 0 @c @c | op 0 0 6 41 | barrier | jump @z | c: end", " | 16 48 1, 2 4 0")
	// where all went one way there is one entry still
	warps(t, spread(1, 3), "in 0 2 | zero 0 @b @c | end | b: barrier | c: end", " | 4 12 1, 1 1 0")
	warps(t, spread(1, 3), "in 0 3 | zero 0 @b @c | barrier | b: move 1 1 | c: end", " | 5 15 1, 1 1 0")
}

func TestBarriersWhereLanesHaveEnded(t *testing.T) {
	t.Parallel()
	warps(t, spread(1, 3), "in 0 1 | zero 0 @b @c | end | b: move 1 1 | c: barrier | end", " | 6 11 3, 1 1 1")
	warps(t, spread(1, 3), "in 0 1 | zero 0 @c @c | end | c: barrier | end", " | 5 10 3, 1 1 1")
	warps(t, spread(1, 3), "in 0 1 | zero 0 @b @c | jump @c | b: end | c: barrier | end", " | 6 13 3, 1 1 1")
	warps(t, spread(1, 8), "const 6 1 | in 0 1 | z: zero 0 @b @c | op 0 0 6 41 | barrier | jump @z | b: end | c: end", "RunStuck")
	// all lanes that have not ended, but not in one entry alone
	warps(t, spread(1, 3), "in 0 1 | zero 0 @b @c | end | b: barrier | c: end", "RunStuck")
	warps(t, spread(1, 3), "in 0 1 | zero 0 @b @c | end | b: barrier | end | c: end", "RunStuck")
}

func TestWarpsThatGetStuck(t *testing.T) {
	t.Parallel()
	warps(t, spread(1, 2), "in 0 1 | zero 0 @c @c | barrier | c: end", "RunStuck")
	warps(t, spread(1, 1), "in 0 1 | zero 0 @c @c | barrier | c: end", " | 3 3 1, 1 1 0")
	warps(t, spread(1, 2), "in 0 1 | zero 0 @b @c | jump @c | b: barrier | c: end", "RunStuck")
	// both come to one barrier, but ahead of their join
	warps(t, spread(1, 2), "in 0 1 | zero 0 @b @c | move 1 1 | b: barrier | c: end", "RunStuck")
	// both come to one barrier, and the join is not met at all
	warps(t, spread(1, 2), "in 0 1 | zero 0 @b @c | move 1 1 | b: barrier | end | c: end", "RunStuck")
	// the last of eight, and the second group
	warps(t, spread(1, 8), "in 0 1 | const 1 7 | op 0 0 1 77 | zero 0 @c @c | barrier | c: end", "RunStuck")
	warps(t, spread(1, 7), "in 0 1 | const 1 7 | op 0 0 1 77 | zero 0 @c @c | barrier | c: end", " | 5 35 1, 3 1 0")
	warps(t, spread(2, 2), "in 0 0 | const 1 3 | op 0 0 1 77 | zero 0 @c @c | barrier | c: end", "RunStuck")
	warps(t, spread(1, 2), "in 0 0 | const 1 3 | op 0 0 1 77 | zero 0 @c @c | barrier | c: end", " | 5 10 1, 3 1 0")
	// behind a barrier that was passed, and ahead of one
	warps(t, spread(1, 2), "in 0 1 | barrier | zero 0 @c @c | barrier | c: barrier | end", "RunStuck")
	warps(t, spread(1, 2), "in 0 1 | barrier | zero 0 @c @c | end | c: barrier | end", " | 6 9 3, 2 1 1")
}

func TestWarpsThatGoRound(t *testing.T) {
	t.Parallel()
	for _, text := range []string{"jump 0", "barrier | jump 0", "move 0 0 | jump 0", "zero 0 0 1 | end", "zero 0 0 0 | end", "in 0 0 | store 0 0 0 | jump 1", "jump 1 | jump 0"} {
		for _, x := range []impl.Launch{spread(1, 1), spread(4, 3, 1, 2, 3), spread(1, 2)} {
			warps(t, x, text, "RunSteps")
		}
	}
	warps(t, spread(1, 2, 5), "end | jump 1 | jump 0", "5 | 1 2 1")
	// the join at the IZero, where the others come back again and again
	warps(t, spread(1, 2), "in 0 1 | z: zero 0 @b @z | jump @z | b: end", "RunSteps")
	warps(t, spread(1, 3), "in 0 1 | z: zero 0 @b @z | jump @z | b: jump @z", "RunSteps")
}

// Of several codes the one that is met first: the others go ahead of those that
// have 0.
func TestTheCodeOfWarpsThatIsMetFirst(t *testing.T) {
	t.Parallel()
	warps(t, spread(1, 2), "in 0 1 | zero 0 @b @c | r: jump @r | b: barrier | c: end", "RunSteps")
	warps(t, spread(1, 2), "in 0 1 | zero 0 @b @c | barrier | b: jump @b | c: end", "RunStuck")
	warps(t, spread(1, 2), "in 0 1 | zero 0 @b @c | jump @c | b: barrier | c: jump @c", "RunStuck")
	warps(t, spread(1, 2), "in 0 1 | zero 0 @b @c | jump @c | b: jump @b | c: barrier | end", "RunSteps")
	// a group ahead of another one
	warps(t, spread(2, 2), "in 0 2 | in 1 1 | zero 0 @s @s | r: jump @r | s: zero 1 @c @c | barrier | c: end", "RunStuck")
	warps(t, spread(2, 2), "in 0 2 | in 1 1 | zero 0 @r @r | zero 1 @c @c | barrier | c: end | r: jump @r", "RunSteps")
	// what is bad is so ahead of all
	warps(t, spread(5, 2), "r: jump @r", "RunBad")
	warps(t, spread(1, 2), "r: jump @r | barrier", "RunBad")
}

// Just as many issues as there may be, and one more, however many lanes are on.
func TestIssuesAtTheirLimit(t *testing.T) {
	t.Parallel()
	for issues, want := range map[int]string{20: "5 | 20 %d 1", 99999: "5 | 99999 %d 1", 100000: "5 | 100000 %d 1", 100001: "RunSteps", 100002: "RunSteps"} {
		for _, size := range []int{1, 3} {
			told := func(at, taken int) string {
				text := strings.Replace(want, "%d", strconv.Itoa(size*issues), 1)
				if want == "RunSteps" {
					return text
				}
				return text + ", " + strconv.Itoa(at) + " " + strconv.Itoa(taken) + " 0"
			}
			code := counting("", issues)
			warps(t, spread(1, size, 5), code+"end", told(strings.Count(code, "|")-2, (issues-5)/3+1))
			code = counting("", issues-1)
			warps(t, spread(1, size, 5), code+"barrier | end", told(strings.Count(code, "|")-2, (issues-6)/3+1))
		}
	}
	// the issues of all groups count together
	warps(t, spread(2, 2, 5), counting("", 50000)+"end", "5 | 100000 200000 1, 3 33332 0")
	warps(t, spread(2, 2, 5), counting("", 50001)+"end", "RunSteps")
	warps(t, spread(4, 1, 5), counting("", 25000)+"end", "5 | 100000 100000 1, 5 33328 0")
	warps(t, spread(4, 1, 5), counting("", 25001)+"end", "RunSteps")
}

// parted: lanes part behind so many issues, the last one of which is the IZero;
// then some instructions of the others.
func parted(issues int, more string) string {
	text := counting("in 7 1 | ", issues)
	join := strconv.Itoa(strings.Count(text+more, "|") + 1)
	return text + "zero 7 " + join + " " + join + " | " + more + "end"
}

// A barrier where it is not allowed, as the last issue that there may be; an entry
// that is taken away is no issue.
func TestStuckAtTheLastIssue(t *testing.T) {
	t.Parallel()
	warps(t, spread(1, 2), parted(99998, "barrier | "), "RunStuck")
	warps(t, spread(1, 2), parted(99999, "barrier | "), "RunStuck") // at issue 100000
	warps(t, spread(1, 2), parted(100000, "barrier | "), "RunSteps")
	warps(t, spread(1, 2), parted(99999, "move 9 9 | barrier | "), "RunSteps")
	warps(t, spread(1, 2), parted(99998, "move 9 9 | "), " | 100000 199999 3, 6 33331 0, 8 1 1")
	warps(t, spread(1, 2), parted(99999, "move 9 9 | "), "RunSteps")
	warps(t, spread(1, 2), parted(99999, ""), " | 100000 200000 1, 4 33332 0, 6 1 1")
	warps(t, spread(1, 2), parted(100000, ""), "RunSteps")
	// both ends are issued, then the first entry is taken away without one
	warps(t, spread(1, 2), parted(99998, "end | "), " | 100000 199998 3, 6 33331 0, 8 1 1")
	warps(t, spread(1, 2), parted(99999, "end | "), "RunSteps")
}

// Groups go one after the other: what one leaves in the buffers the next one
// finds, but no registers; the numbers of all add up, the most entries do not.
func TestGroupsOfWarps(t *testing.T) {
	t.Parallel()
	warps(t, spread(1, 2, 0), "const 6 1 | load 1 4 0 | op 1 1 6 33 | store 4 1 0 | end", "1 | 5 10 1")
	warps(t, spread(4, 2, 0), "const 6 1 | load 1 4 0 | op 1 1 6 33 | store 4 1 0 | end", "4 | 20 40 1")
	warps(t, spread(4, 2, 0), "const 6 1 | op 1 1 6 33 | store 4 1 0 | end", "1 | 16 32 1")
	warps(t, spread(2, 2, 9, 9, 9, 9), "in 0 0 | store 0 399 0 | const 399 1 | end", "0 0 0 0 | 8 16 1")
	warps(t, spread(3, 2, 0, 0, 0, 0), "const 6 1 | in 7 2 | load 5 4 0 | op 5 5 6 33 | store 4 5 0 | store 5 7 0 | end", "3 0 1 2 | 21 42 1")
	// only the second group parts, and only the first
	warps(t, spread(3, 2), "in 0 0 | const 1 3 | op 0 0 1 77 | zero 0 @c @c | move 1 1 | c: end", " | 16 31 3, 3 3 1")
	warps(t, spread(3, 2), "in 0 0 | zero 0 @c @c | move 1 1 | c: end", " | 12 23 3, 1 3 1")
	// a group that ends apart does not leave its entries to the next one
	warps(t, spread(3, 2), "in 0 1 | zero 0 @c @c | end | c: end", " | 12 18 3, 1 3 3")
	// groups do not wait for each other
	warps(t, spread(2, 1, 0, 0), "in 0 0 | const 1 7 | store 0 1 0 | barrier | const 2 1 | load 3 2 0 | store 0 3 0 | end", "0 7 | 16 16 1")
	// lanes' own numbers
	warps(t, spread(2, 3, 9, 9, 9, 9, 9, 9, 9), "in 0 0 | in 1 0 | store 0 1 0 | end", "0 1 2 3 4 5 9 | 8 24 1")
	warps(t, spread(2, 3, 9, 9, 9, 9, 9, 9, 9), "in 0 0 | in 1 1 | store 0 1 0 | end", "0 1 2 0 1 2 9 | 8 24 1")
	warps(t, spread(2, 3, 9, 9, 9, 9, 9, 9, 9), "in 0 0 | in 1 2 | store 0 1 0 | end", "0 0 0 1 1 1 9 | 8 24 1")
	warps(t, spread(2, 3, 9, 9, 9, 9, 9, 9, 9), "in 0 0 | in 1 3 | store 0 1 0 | end", "3 3 3 3 3 3 9 | 8 24 1")
}

// Words, buffers and places that are not there: 0 is read, nothing is written.
func TestWhatIsNotThereForWarps(t *testing.T) {
	t.Parallel()
	for count := range 17 {
		x := spread(1, 2, 9, 9)
		x.Words = slices.Repeat(wholes(7), count)
		for _, word := range []int{4, 5, 18, 19, 20, 21, 999} {
			want := strings.Repeat(strconv.Itoa(map[bool]int{true: 7}[word-4 < count])+" ", 2)
			warps(t, x, "in 0 0 | in 1 "+strconv.Itoa(word)+" | store 0 1 0 | end", want+"| 4 8 1")
		}
	}
	for _, place := range []uint32{2, 3, 63, 64, 1 << 16, 1<<31 - 1, 1 << 31, math.MaxUint32} {
		at := strconv.Itoa(int(place))
		warps(t, spread(1, 2, 5, 6), "const 0 "+at+" | const 1 9 | store 0 1 0 | end", "5 6 | 4 8 1")
		warps(t, spread(1, 2, 5, 6), "const 0 "+at+" | const 1 9 | load 1 0 0 | store 4 1 0 | end", "0 6 | 5 10 1")
	}
	// some lanes have a place, others none
	warps(t, spread(1, 4, 5, 6), "in 0 1 | const 1 9 | store 0 1 0 | end", "9 9 | 4 16 1")
	warps(t, spread(1, 4, 5, 6), "in 0 1 | load 1 0 0 | store 4 1 0 | end", "0 6 | 4 16 1")
	for count := range 17 {
		x := impl.Launch{Groups: 1, Size: 2}
		for range count {
			x.Buffers = append(x.Buffers, wholes(3, 0))
		}
		for _, buffer := range []int{0, 1, 14, 15, 16, 17, 999} {
			want := ""
			for n := range count {
				want += map[bool]string{true: "3 3 | ", false: "3 0 | "}[n == buffer]
			}
			number := strconv.Itoa(buffer)
			warps(t, x, "const 0 1 | load 1 4 "+number+" | store 0 1 "+number+" | end", want+"4 8 1")
		}
	}
	warps(t, impl.Launch{Groups: 1, Size: 1, Buffers: [][]uint32{nil, {}, {1}}}, "load 1 0 0 | load 2 0 1 | load 3 0 2 | store 0 3 1 | end", " |  | 1 | 5 5 1")
}

// badForWarps: whether a launch is bad for code.
func badForWarps(t *testing.T, x impl.Launch, want bool) {
	t.Helper()
	got, branches := heldWarps(t, instrs("end"), x)
	if want && !sameWarped(got, impl.Warped{Code: impl.RunBad}) || !want && !sameWarped(got, impl.Warped{Buffers: x.Buffers, Issues: x.Groups, Work: x.Groups * x.Size, Deepest: 1}) {
		t.Errorf("RunWarps with %v: %v", x, got)
	}
	if _, ok := impl.BranchesOf(instrs("end"), x); ok == want || len(branches) > 0 {
		t.Errorf("BranchesOf with %v: %v", x, branches)
	}
}

func TestLaunchesForWarps(t *testing.T) {
	t.Parallel()
	launchesForCode(t, badForWarps)
}

// Code that is not good is bad whatever the launch.
func TestWarpsThatAreBad(t *testing.T) {
	t.Parallel()
	for _, text := range []string{"barrier", "const 0 0", "jump 1", "end | barrier", "const 400 0 | end", "zero 0 2 0 | end", "zero 0 0 2 | end", "zero 400 0 0 | end", "op 0 0 0 0 | end", "jump 0 | zero 0 0 0"} {
		for _, x := range []impl.Launch{{}, spread(1, 1), spread(4, 8, 1, 2), spread(5, 1), spread(1, 9)} {
			warps(t, x, text, "RunBad")
		}
	}
	for _, l := range [][]impl.Instr{nil, {}, slices.Repeat(instrs("end"), 601)} {
		if got, branches := heldWarps(t, l, spread(1, 1, 1)); !sameWarped(got, impl.Warped{Code: impl.RunBad}) || len(branches) > 0 {
			t.Errorf("%d instructions: %v, %v", len(l), got, branches)
		}
	}
	if got := impl.RunWarps(slices.Repeat(instrs("end"), 600), spread(1, 1, 1)); !sameWarped(got, impl.Warped{Buffers: [][]uint32{{1}}, Issues: 1, Work: 1, Deepest: 1}) {
		t.Errorf("600 instructions: %v", got)
	}
}

// branches: those of a run, and whether it has no code.
func branches(t *testing.T, x impl.Launch, text string, wantOk bool, want ...impl.Branch) {
	t.Helper()
	l := instrs(linked(text))
	if got, ok := impl.BranchesOf(l, x); !slices.Equal(got, want) || ok != wantOk {
		t.Errorf("BranchesOf %s: %v, %v, want %v, %v", text, got, ok, want, wantOk)
	}
	heldWarps(t, l, x)
}

func TestBranchesOfRuns(t *testing.T) {
	t.Parallel()
	branches(t, spread(1, 1), "end", true)
	branches(t, spread(4, 8), "move 0 0 | barrier | end", true)
	branches(t, spread(1, 2), "jump @e | zero 0 0 0 | e: end", true) // never issued
	branches(t, spread(1, 2), "end | zero 0 0 0 | jump 0", true)
	branches(t, spread(1, 2), "zero 0 @c @c | c: end | zero 0 0 0 | end", true, impl.Branch{Taken: 1})
	branches(t, spread(1, 2), "in 0 1 | zero 0 @c @c | c: end", true, impl.Branch{At: 1, Taken: 1, Split: 1})
	branches(t, spread(1, 1), "in 0 1 | zero 0 @c @c | c: end", true, impl.Branch{At: 1, Taken: 1})
	branches(t, spread(1, 2), "in 0 3 | zero 0 @c @c | c: end", true, impl.Branch{At: 1, Taken: 1})
	branches(t, spread(4, 2), "in 0 1 | zero 0 @c @c | c: end", true, impl.Branch{At: 1, Taken: 4, Split: 4})
	branches(t, spread(4, 2), "in 0 0 | zero 0 @c @c | c: end", true, impl.Branch{At: 1, Taken: 4, Split: 1}) // only group 0 has a lane with 0
	// rising by their numbers, whichever is issued first
	branches(t, spread(1, 2), "in 0 1 | jump @y | x: zero 0 @c @c | c: end | y: zero 1 @x @x | end", true, impl.Branch{At: 2, Taken: 1, Split: 1}, impl.Branch{At: 4, Taken: 1})
	branches(t, spread(1, 4), "in 0 1 | const 6 1 | op 1 0 6 13 | zero 1 @b @c | zero 0 @c @c | jump @c | b: zero 0 @c @c | move 9 9 | zero 0 @c @c | c: end", true,
		impl.Branch{At: 3, Taken: 1, Split: 1}, impl.Branch{At: 4, Taken: 1}, impl.Branch{At: 6, Taken: 1, Split: 1}, impl.Branch{At: 8, Taken: 1})
	// with a code there are none
	branches(t, spread(1, 2), "in 0 1 | zero 0 @c @c | barrier | c: end", false)
	branches(t, spread(1, 2), "zero 0 0 0 | end", false)
	branches(t, spread(1, 9), "zero 0 1 1 | end", false)
	branches(t, spread(0, 1), "zero 0 1 1 | end", false)
	branches(t, spread(1, 1), "zero 0 1 1 | barrier", false)
	branches(t, spread(1, 1), "zero 0 1 2 | end", false)
	// how often it is gone through a loop
	branches(t, spread(2, 8), "in 0 1 | const 6 1 | z: zero 0 @c @c | op 0 0 6 41 | jump @z | c: end", true, impl.Branch{At: 2, Taken: 16, Split: 14})
	branches(t, spread(2, 8), "in 0 3 | const 6 1 | z: zero 0 @c @c | op 0 0 6 41 | jump @z | c: end", true, impl.Branch{At: 2, Taken: 18})
}

// fine: whether the joins of codes are fine.
func fine(t *testing.T, want bool, texts ...string) {
	t.Helper()
	for _, text := range texts {
		if got := heldJoins(t, instrs(linked(text))); got != want {
			t.Errorf("JoinsFine of %s: %v", text, got)
		}
	}
}

func TestJoinsOfCodeThatIsNotGood(t *testing.T) {
	t.Parallel()
	fine(t, false, "barrier", "move 0 0", "jump 1", "jump -1", "zero 0 1 1 | barrier", "zero 0 2 2 | end", "zero 0 1 2 | end", "zero 400 1 1 | end", "zero -1 1 1 | end", "const 400 0 | end", "end | zero 0 1 1")
	for _, l := range [][]impl.Instr{nil, {}, {{}}, slices.Repeat(instrs("end"), 601), append(instrs("zero 0 1 1"), slices.Repeat(instrs("end"), 600)...)} {
		if heldJoins(t, l) {
			t.Errorf("the joins of %d instructions are fine", len(l))
		}
	}
	for _, l := range [][]impl.Instr{slices.Repeat(instrs("end"), 600), append(instrs("zero 0 599 599"), slices.Repeat(instrs("end"), 599)...)} {
		if !heldJoins(t, l) {
			t.Errorf("the joins of %d instructions are not fine", len(l))
		}
	}
}

// Code without an IZero is fine, wherever it jumps.
func TestJoinsWithoutZeros(t *testing.T) {
	t.Parallel()
	fine(t, true, "end", "jump 0", "jump 1 | jump 0", "jump 2 | end | jump 0", "barrier | end", everyOp)
}

// B and C behind the IZero, B not behind C.
func TestWhereBAndCMayBe(t *testing.T) {
	t.Parallel()
	for b := range 6 {
		for c := range 6 {
			text := "move 0 0 | move 0 0 | zero 0 " + strconv.Itoa(b) + " " + strconv.Itoa(c) + " | move 0 0 | move 0 0 | end"
			fine(t, b > 2 && c > 2 && b <= c, text)
		}
	}
	fine(t, false, "zero 0 0 0 | end", "zero 0 0 1 | end", "zero 0 1 0 | end")
	fine(t, true, "zero 0 1 1 | end")
	// the last one of several
	fine(t, false, "zero 0 1 1 | zero 0 2 2 | zero 0 2 3 | end")
	fine(t, false, "zero 0 1 1 | zero 0 2 2 | zero 0 3 2 | end")
}

// An IJump between the IZero at number 2 and C, number 6, from each place to
// each.
func TestJumpsInBetween(t *testing.T) {
	t.Parallel()
	for from := 3; from < 6; from++ {
		for to := range 9 {
			l := instrs("move 0 0 | move 0 0 | zero 0 6 6 | move 0 0 | move 0 0 | move 0 0 | move 0 0 | move 0 0 | end")
			l[from] = impl.Instr{Op: impl.IJump, A: to}
			if want := to <= 6 && (to > 2 || from == 5); heldJoins(t, l) != want {
				t.Errorf("from %d to %d: %v", from, to, !want)
			}
			l[2].B = 4 // wherever B is
			if want := to <= 6 && (to > 2 || from == 5); heldJoins(t, l) != want {
				t.Errorf("from %d to %d, B 4: %v", from, to, !want)
			}
		}
	}
}

// An IZero between the IZero at number 2 and C, number 6: its B and C are at most
// there, and behind itself.
func TestZerosInBetween(t *testing.T) {
	t.Parallel()
	for from := 3; from < 6; from++ {
		for b := range 9 {
			for c := range 9 {
				l := instrs("move 0 0 | move 0 0 | zero 0 6 6 | move 0 0 | move 0 0 | move 0 0 | move 0 0 | move 0 0 | end")
				l[from] = impl.Instr{Op: impl.IZero, B: b, C: c}
				if want := b > from && b <= c && c <= 6; heldJoins(t, l) != want {
					t.Errorf("from %d to %d and %d: %v", from, b, c, !want)
				}
			}
		}
	}
}

// An IJump from elsewhere, ahead of the IZero at number 2, at C, number 6, and
// behind it, to each number: it may not lead in.
func TestJumpsFromElsewhere(t *testing.T) {
	t.Parallel()
	for _, from := range []int{0, 1, 6, 7, 8} {
		for to := range 9 {
			l := instrs("move 0 0 | move 0 0 | zero 0 5 6 | move 0 0 | move 0 0 | move 0 0 | move 0 0 | move 0 0 | end")
			l[from] = impl.Instr{Op: impl.IJump, A: to}
			if want := to <= 2 || to >= 6; heldJoins(t, l) != want {
				t.Errorf("from %d to %d: %v", from, to, !want)
			}
		}
	}
}

// An IZero from elsewhere: it may lead over all of it, or to its beginning or its
// end.
func TestZerosFromElsewhere(t *testing.T) {
	t.Parallel()
	for b := range 9 {
		for c := range 9 {
			l := instrs("zero 0 1 1 | move 0 0 | zero 0 5 6 | move 0 0 | move 0 0 | move 0 0 | move 0 0 | move 0 0 | end")
			l[0].B, l[0].C = b, c
			want := b > 0 && b <= c && (c <= 2 || c >= 6 && (b <= 2 || b >= 6))
			if heldJoins(t, l) != want {
				t.Errorf("to %d and %d: %v", b, c, !want)
			}
			l[0] = impl.Instr{Op: impl.IMove}
			l[7] = impl.Instr{Op: impl.IZero, B: b, C: c}
			if want := b == 8 && c == 8; heldJoins(t, l) != want {
				t.Errorf("from behind to %d and %d: %v", b, c, !want)
			}
		}
	}
}

// The jump of a loop: right ahead of C, to the IZero or to what stands ahead.
func TestJumpsOfLoops(t *testing.T) {
	t.Parallel()
	fine(t, true, "z: zero 0 @c @c | move 0 0 | jump @z | c: end", "l: move 0 0 | zero 0 @c @c | jump @l | c: end", "l: move 0 0 | move 0 0 | zero 0 @c @c | jump @l | c: end")
	fine(t, false, "z: zero 0 @c @c | jump @z | move 0 0 | c: end", "l: move 0 0 | zero 0 @c @c | jump @l | barrier | c: end")
	// C is the jump itself, or the one behind it
	fine(t, true, "l: move 0 0 | zero 0 @c @c | move 0 0 | c: jump @l")
	fine(t, true, "l: move 0 0 | zero 0 @c @c | move 0 0 | c: move 0 0 | jump @l")
	fine(t, true, "z: zero 0 @c @c | jump @z | c: jump @z")
	// of two the jump is right ahead of one C alone, and of both
	fine(t, false, "l: zero 0 @d @d | zero 0 @c @c | jump @l | c: move 0 0 | d: end")
	fine(t, true, "l: zero 0 @d @d | m: zero 0 @c @c | jump @m | c: move 0 0 | d: end")
	fine(t, true, "l: zero 0 @d @d | zero 0 @d @d | jump @l | d: end")
	fine(t, true, "l: zero 0 @d @d | m: zero 0 @d @d | jump @m | d: end")
	fine(t, true, "l: zero 0 @d @d | zero 0 @c @c | move 0 0 | c: jump @l | d: end")
	// a loop within a choice, and a choice within a loop
	fine(t, true, "zero 0 @b @c | z: zero 0 @d @d | jump @z | d: jump @c | b: move 0 0 | c: end")
	fine(t, true, "z: zero 0 @c @c | zero 0 @b @d | jump @d | b: move 0 0 | d: jump @z | c: end")
	fine(t, false, "z: zero 0 @c @c | zero 0 @b @d | jump @z | b: move 0 0 | d: jump @z | c: end")
	fine(t, false, "z: zero 0 @c @c | zero 0 @b @d | jump @d | b: jump @z | d: jump @z | c: end")
	fine(t, false, "z: zero 0 @c @c | zero 0 @b @d | jump @c | b: move 0 0 | d: jump @z | c: end")
}

// Kernels of each form become code that is fine.
func TestJoinsOfKernels(t *testing.T) {
	t.Parallel()
	for _, statements := range []string{
		"", "if n == 0 { }", "if n == 0 { } else { }", "if n == 0 { if n == 1 { } }", "if n == 0 { if n == 1 { } else { } } else { if n == 2 { } else { } }",
		"for i in 0 .. 3 { }", "for i in 0 .. n { for j in 0 .. i { } }", "for i in 0 .. n { if i == 1 { } }", "for i in 0 .. n { if i == 1 { } else { } }", "if n == 0 { for i in 0 .. n { } }", "if n == 0 { for i in 0 .. n { } } else { for i in 0 .. n { } }",
		"for i in 0 .. n { for j in 0 .. n { if i == j { a [ i ] = j ; } else { a [ j ] = i ; } } a [ 0 ] = 1 ; } barrier ; if n == 0 { } barrier ; for i in 0 .. 2 { }",
	} {
		code, ok := impl.CompileKernel(kernelWith(t, given(statements)))
		if !ok || !heldJoins(t, code) {
			t.Errorf("the joins of %q are not fine", statements)
		}
	}
}
