package tests

import (
	"math"
	"slices"
	"strconv"
	"strings"
	"testing"

	"loop.example/g00053/impl"
)

// The edges that chapter 15 names, with what is answered written out.

// numbersOf: numbers with blanks between them.
func numbersOf(text string) []int {
	var l []int
	for _, word := range strings.Fields(text) {
		n, err := strconv.Atoi(word)
		if err != nil {
			panic(err)
		}
		l = append(l, n)
	}
	return l
}

// setsOf: the lines of sets, with `|` between each two of them.
func setsOf(text string) [][]int {
	var sets [][]int
	for _, set := range strings.Split(text, "|") {
		sets = append(sets, numbersOf(set))
	}
	return sets
}

// cacheWith: as many sets as there are lines for.
func cacheWith(ways, line, policy int, lines string, coin int) impl.Cache {
	sets := setsOf(lines)
	return impl.Cache{Sets: len(sets), Ways: ways, Line: line, Policy: policy, Lines: sets, Coin: coin}
}

// Numbers that no function of the chapter takes for anything.
var farInts = []int{math.MinInt, math.MinInt + 1, -1 << 32, -1000001, -256, -65, -16, -9, -2, -1, 1 << 32, 1<<32 + 1, 1<<32 + 16, 1 << 33, math.MaxInt - 1, math.MaxInt}

// Places that are none.
var wrongPlaces = []int{math.MinInt, math.MinInt + 16, -1 << 32, -1000000, -16, -1, 1000001, 1000016, 1 << 32, 1<<32 + 16, math.MaxInt - 15, math.MaxInt}

func TestConstantsOfMemory(t *testing.T) {
	t.Parallel()
	got := []int{impl.MaxAccess, impl.MaxWays, impl.MaxSets, impl.KeepOld, impl.KeepFirst, impl.KeepRandom}
	if !slices.Equal(got, []int{200, 8, 64, 1, 2, 3}) {
		t.Errorf("constants %v", got)
	}
}

func turns(t *testing.T, text string, banks, want int) {
	t.Helper()
	places := numbersOf(text)
	if got, ok := impl.BankTurns(places, banks); got != want || !ok {
		t.Errorf("BankTurns(%v, %d) = %d, %v, want %d", places, banks, got, ok, want)
	}
	heldTurns(t, places, banks)
}

func TestTurnsOfBanks(t *testing.T) {
	t.Parallel()
	for _, banks := range []int{1, 2, 3, 32, 63, 64} {
		turns(t, "", banks, 0)
		turns(t, "0", banks, 1)
		turns(t, "1000000", banks, 1)
		turns(t, strings.Repeat("17 ", 200), banks, 1)
	}
	turns(t, "0 4 8 8 1", 4, 3)
	turns(t, "0 4 8 12 16", 4, 5)
	turns(t, "0 4 8 12 16", 1, 5)
	turns(t, "0 4 8 12 16", 5, 1)
	turns(t, "0 4 8 12 16", 64, 1)
	turns(t, "0 1 2 3", 4, 1)
	turns(t, "3 2 1 0 4", 4, 2)
	turns(t, "0 64 128 1 65 63", 64, 3)
	turns(t, "0 63 126 189", 63, 4)
	turns(t, "0 63 126 189", 64, 1)
	turns(t, "63 127 127 191 0", 64, 3)
	turns(t, "1 2 4 5 7 8 8", 3, 3)
	turns(t, "5 3 5 3 5 3", 2, 2)
	turns(t, "0 1000000 0 1000000", 64, 2)
	turns(t, "1000000 999936 999999", 64, 2)
	turns(t, "7 7 7 1 2 3", 10, 1)
}

func TestTurnsOfMostPlaces(t *testing.T) {
	t.Parallel()
	for banks := 1; banks <= 64; banks++ {
		if got, ok := impl.BankTurns(upTo(200), banks); got != (200+banks-1)/banks || !ok {
			t.Errorf("of 200 words in %d banks: %d, %v", banks, got, ok)
		}
		if got, ok := impl.BankTurns(upTo(201), banks); got != 0 || ok {
			t.Errorf("of 201 words in %d banks: %d, %v", banks, got, ok)
		}
		same := slices.Repeat([]int{banks}, 201)
		if got, ok := impl.BankTurns(same, banks); got != 0 || ok {
			t.Errorf("of one word 201 times: %d, %v", got, ok)
		}
	}
}

func TestTurnsOfNoBanks(t *testing.T) {
	t.Parallel()
	for _, banks := range slices.Concat(farInts, []int{0, 65, 66, 128}) {
		for _, places := range [][]int{nil, {}, {0}, {1, 2, 3}} {
			if got, ok := impl.BankTurns(places, banks); got != 0 || ok {
				t.Errorf("BankTurns(%v, %d) = %d, %v", places, banks, got, ok)
			}
		}
	}
}

func coalesced(t *testing.T, text string, size, line int, want string) {
	t.Helper()
	places := numbersOf(text)
	if got, ok := impl.Coalesced(places, size, line); !slices.Equal(got, numbersOf(want)) || !ok {
		t.Errorf("Coalesced(%v, %d, %d) = %v, %v, want %s", places, size, line, got, ok, want)
	}
	heldCoalesced(t, places, size, line)
}

func TestCoalescedLines(t *testing.T) {
	t.Parallel()
	coalesced(t, "0 4 60 64 200", 4, 64, "0 1 3")
	coalesced(t, "200 64 60 4 0", 4, 64, "0 1 3")
	coalesced(t, "0 0 0", 16, 16, "0")
	coalesced(t, "15 16 17 31 32", 1, 16, "0 1 2")
	coalesced(t, "14 16 30 32", 2, 16, "0 1 2")
	coalesced(t, "12 16", 4, 16, "0 1")
	coalesced(t, "8 16 24", 8, 16, "0 1")
	coalesced(t, "32 0 16 32 0", 16, 16, "0 1 2")
	coalesced(t, "255 256 511 512", 1, 256, "0 1 2")
	coalesced(t, "240 256", 16, 256, "0 1")
	coalesced(t, "1000000", 16, 16, "62500")
	coalesced(t, "1000000 999999 0", 1, 16, "0 62499 62500")
	coalesced(t, "1000000 0", 8, 256, "0 3906")
	coalesced(t, "1000 90 1000 9 90", 1, 128, "0 7")
}

// Each size with each line: places of one line and the one behind it.
func TestCoalescedSizesAndLines(t *testing.T) {
	t.Parallel()
	for _, size := range []int{1, 2, 4, 8, 16} {
		for _, line := range []int{16, 32, 64, 128, 256} {
			coalesced(t, "", size, line, "")
			last := strconv.Itoa(5*line - size)
			coalesced(t, last, size, line, "4")
			coalesced(t, strconv.Itoa(5*line)+" "+last+" "+last, size, line, "4 5")
			for at := 4 * line; at < 5*line; at++ {
				got, ok := impl.Coalesced([]int{at}, size, line)
				if good := at%size == 0; ok != good || good && !slices.Equal(got, []int{4}) || !good && len(got) > 0 {
					t.Errorf("Coalesced of %d, %d, %d: %v, %v", at, size, line, got, ok)
				}
			}
		}
	}
}

// notCoalesced: for places that are as said.
func notCoalesced(t *testing.T, places []int, size, line int) {
	t.Helper()
	if got, ok := impl.Coalesced(places, size, line); len(got) > 0 || ok {
		t.Errorf("Coalesced(%v, %d, %d) = %v, %v", places, size, line, got, ok)
	}
}

func TestCoalescedNothing(t *testing.T) {
	t.Parallel()
	for _, places := range [][]int{nil, {}, {0}, {0, 96, 192}} {
		for _, size := range slices.Concat(farInts, []int{0, 3, 5, 6, 7, 9, 12, 15, 17, 24, 32, 64}) {
			notCoalesced(t, places, size, 64)
		}
		for _, line := range slices.Concat(farInts, []int{0, 1, 2, 4, 8, 15, 17, 20, 24, 31, 33, 48, 63, 65, 96, 127, 129, 192, 255, 257, 384, 512, 1024}) {
			notCoalesced(t, places, 4, line)
		}
	}
	for _, size := range []int{2, 4, 8, 16} {
		notCoalesced(t, []int{1}, size, 64)
		notCoalesced(t, []int{0, size, size / 2}, size, 64)
		notCoalesced(t, []int{size + 1, 0}, size, 64)
		notCoalesced(t, []int{0, 2*size - 1, 0}, size, 64)
	}
	coalesced(t, "1 3 5", 1, 64, "0")
}

func TestCoalescedMostPlaces(t *testing.T) {
	t.Parallel()
	for _, count := range []int{199, 200, 201, 202} {
		var places []int
		for n := range count {
			places = append(places, 16*(count-n))
		}
		got, ok := impl.Coalesced(places, 16, 16)
		if good := count <= 200; ok != good || good && !slices.Equal(got, upTo(count + 1)[1:]) || !good && len(got) > 0 {
			t.Errorf("of %d places: %v, %v", count, got, ok)
		}
	}
}

// Each number of a cache at its ends and beyond them.
func TestShapesOfCaches(t *testing.T) {
	t.Parallel()
	sets := slices.Concat(farInts, []int{0, 1, 2, 3, 4, 5, 6, 7, 8, 16, 24, 32, 33, 48, 63, 64, 65, 96, 128, 256})
	ways := slices.Concat(farInts, []int{0, 1, 2, 3, 4, 5, 6, 7, 8, 9, 16})
	lines := slices.Concat(farInts, []int{0, 1, 8, 15, 16, 17, 24, 31, 32, 48, 64, 96, 128, 129, 192, 255, 256, 257, 512})
	policies := slices.Concat(farInts, []int{0, 1, 2, 3, 4, 5, 8})
	good := 0
	for _, set := range sets {
		for _, way := range ways {
			for _, line := range lines {
				for _, policy := range policies {
					if heldNew(t, set, way, line, policy) {
						good++
					}
				}
			}
		}
	}
	if good != 7*8*5*3 {
		t.Errorf("%d shapes are good", good)
	}
}

func TestNewCacheHasNothing(t *testing.T) {
	t.Parallel()
	got, ok := impl.NewCache(4, 2, 64, impl.KeepRandom)
	if want := cacheWith(2, 64, 3, "|||", 0); !ok || !sameCache(got, want) {
		t.Errorf("NewCache(4, 2, 64, 3) = %v, %v", got, ok)
	}
	got, ok = impl.NewCache(1, 8, 16, impl.KeepOld)
	if want := cacheWith(8, 16, 1, "", 0); !ok || !sameCache(got, want) {
		t.Errorf("NewCache(1, 8, 16, 1) = %v, %v", got, ok)
	}
	got, ok = impl.NewCache(3, 8, 16, impl.KeepOld)
	if ok || !sameCache(got, impl.Cache{}) {
		t.Errorf("NewCache(3, 8, 16, 1) = %v, %v", got, ok)
	}
}

func goodOrNot(t *testing.T, c impl.Cache, want bool) {
	t.Helper()
	if got := impl.GoodCache(c); got != want {
		t.Errorf("GoodCache(%v) = %v", c, got)
	}
	heldGoodCache(t, c)
	for _, place := range []int{0, 17, 1000000} {
		heldCacheRead(t, c, place)
	}
	heldCacheAll(t, c, []int{0, 16, 0})
	heldThrough(t, []impl.Cache{c}, []int{0, 16, 0})
}

func TestGoodCaches(t *testing.T) {
	t.Parallel()
	for _, lines := range []string{"", "0", "1000000", "0 1000000", "1000000 999999 0", "3 1 2", "|", "0|", "|1", "4 0 2|1 3", "1000000|999999", "|||", "0 4 8|1 5 9|2 6 10|3 7 11", "1000000|||999999", strings.Repeat("|", 63), strings.Repeat("|", 63) + "63 127 999999"} {
		for _, coin := range []int{0, 1, 65534, 65535} {
			goodOrNot(t, cacheWith(3, 16, 1, lines, coin), true)
			goodOrNot(t, cacheWith(8, 256, 3, lines, coin), true)
		}
		for _, coin := range slices.Concat(farInts, []int{65536, 65537, 131072}) {
			goodOrNot(t, cacheWith(3, 16, 2, lines, coin), false)
			goodOrNot(t, cacheWith(3, 16, 3, lines, coin), false)
		}
	}
	goodOrNot(t, impl.Cache{}, false)
}

// Lines that are too many, twice there, in a set that is not their own, or none.
func TestLinesOfNoCache(t *testing.T) {
	t.Parallel()
	for _, lines := range []string{"0 1 2 3", "7 7", "7 1 7", "0 0 0", "-1", "0 -1", "1000001", "1 1000001", "1|", "|0", "0 2|1 2", "0 3|1", "1|0", "2 2|", "|3 3", "|3 1 3", "-2|", "|-1", "1000002|", "|1000001", "0 2 4 6|", "|1 3 5 7", "0|1|2|2", "0|1|2|7 4", "0|5|2|3 1", "4|1|2|-1", "||6 2 10 6|", "0|1|6 2 10 14|3"} {
		for _, policy := range []int{1, 2, 3} {
			goodOrNot(t, cacheWith(3, 32, policy, lines, 0), false)
		}
	}
	for _, line := range farInts {
		goodOrNot(t, impl.Cache{Sets: 1, Ways: 2, Line: 16, Policy: 1, Lines: [][]int{{line}}}, false)
		goodOrNot(t, impl.Cache{Sets: 2, Ways: 2, Line: 16, Policy: 1, Lines: [][]int{{line}, nil}}, false)
		goodOrNot(t, impl.Cache{Sets: 2, Ways: 2, Line: 16, Policy: 1, Lines: [][]int{nil, {1, line}}}, false)
	}
	for ways := 1; ways <= 8; ways++ {
		for count := 0; count <= 20; count++ {
			goodOrNot(t, impl.Cache{Sets: 1, Ways: ways, Line: 16, Policy: 2, Lines: [][]int{upTo(count)}}, count <= ways)
		}
	}
}

// Fewer and more sets than Sets says, whatever is in them.
func TestSetsOfNoCache(t *testing.T) {
	t.Parallel()
	for _, sets := range []int{1, 2, 4, 8, 16, 32, 64} {
		for _, count := range []int{0, 1, 2, 3, 4, 7, 8, 9, 16, 31, 32, 33, 63, 64, 65, 128} {
			goodOrNot(t, impl.Cache{Sets: sets, Ways: 2, Line: 16, Policy: 1, Lines: make([][]int, count)}, sets == count)
		}
	}
	for _, sets := range slices.Concat(farInts, []int{0, 3, 5, 6, 7, 12, 63, 65, 128}) {
		for _, count := range []int{0, 1, 3, 64, 65, 128} {
			goodOrNot(t, impl.Cache{Sets: sets, Ways: 2, Line: 16, Policy: 1, Lines: make([][]int, count)}, false)
		}
	}
	for _, number := range slices.Concat(farInts, []int{0, 9, 10}) {
		goodOrNot(t, impl.Cache{Sets: 1, Ways: number, Line: 16, Policy: 1, Lines: make([][]int, 1)}, false)
	}
	for _, number := range slices.Concat(farInts, []int{0, 1, 8, 15, 17, 24, 48, 255, 257, 512}) {
		goodOrNot(t, impl.Cache{Sets: 1, Ways: 1, Line: number, Policy: 1, Lines: make([][]int, 1)}, false)
	}
	for _, number := range slices.Concat(farInts, []int{0, 4, 5}) {
		goodOrNot(t, impl.Cache{Sets: 1, Ways: 1, Line: 16, Policy: number, Lines: make([][]int, 1)}, false)
	}
}

// readsLine: of lines of 16 bytes, at each end of a line, what is left of it.
func readsLine(t *testing.T, c impl.Cache, line int, lines string, coin int, hit bool, out int) {
	t.Helper()
	want := c
	want.Lines, want.Coin = setsOf(lines), coin
	for _, place := range []int{line * c.Line, line*c.Line + 1, line*c.Line + c.Line - 1} {
		got, is, gone := impl.CacheRead(c, place)
		if !sameCache(got, want) || is != hit || gone != out {
			t.Errorf("CacheRead(%v, %d) = %v, %v, %d, want %v, %v, %d", c, place, got, is, gone, want, hit, out)
		}
		heldCacheRead(t, c, place)
	}
}

func TestReadOfSetsThatAreNotFull(t *testing.T) {
	t.Parallel()
	for policy := 1; policy <= 3; policy++ {
		for _, coin := range []int{0, 7, 65535} {
			readsLine(t, cacheWith(1, 16, policy, "", coin), 5, "5", coin, false, -1)
			readsLine(t, cacheWith(3, 16, policy, "", coin), 0, "0", coin, false, -1)
			readsLine(t, cacheWith(3, 32, policy, "9 7", coin), 8, "9 7 8", coin, false, -1)
			readsLine(t, cacheWith(3, 256, policy, "9", coin), 3000, "9 3000", coin, false, -1)
			readsLine(t, cacheWith(2, 16, policy, "0 4|1|2 6|", coin), 5, "0 4|1 5|2 6|", coin, false, -1)
			readsLine(t, cacheWith(2, 16, policy, "0 4|1|2 6|", coin), 7, "0 4|1|2 6|7", coin, false, -1)
			readsLine(t, cacheWith(8, 16, policy, "1 2 3 4 5 6 7", coin), 0, "1 2 3 4 5 6 7 0", coin, false, -1)
		}
	}
}

func TestReadThatIsAHit(t *testing.T) {
	t.Parallel()
	for _, coin := range []int{0, 7, 65535} {
		for _, policy := range []int{2, 3} {
			readsLine(t, cacheWith(1, 16, policy, "5", coin), 5, "5", coin, true, -1)
			for line := 1; line <= 4; line++ {
				readsLine(t, cacheWith(4, 16, policy, "1 2 3 4", coin), line, "1 2 3 4", coin, true, -1)
				readsLine(t, cacheWith(6, 16, policy, "1 2 3 4", coin), line, "1 2 3 4", coin, true, -1)
			}
			readsLine(t, cacheWith(2, 16, policy, "2 4|1 5", coin), 2, "2 4|1 5", coin, true, -1)
		}
		readsLine(t, cacheWith(1, 16, 1, "5", coin), 5, "5", coin, true, -1)
		for _, ways := range []int{4, 5} {
			readsLine(t, cacheWith(ways, 16, 1, "1 2 3 4", coin), 1, "2 3 4 1", coin, true, -1)
			readsLine(t, cacheWith(ways, 16, 1, "1 2 3 4", coin), 2, "1 3 4 2", coin, true, -1)
			readsLine(t, cacheWith(ways, 16, 1, "1 2 3 4", coin), 3, "1 2 4 3", coin, true, -1)
			readsLine(t, cacheWith(ways, 16, 1, "1 2 3 4", coin), 4, "1 2 3 4", coin, true, -1)
		}
		readsLine(t, cacheWith(2, 16, 1, "2 4|1 5", coin), 1, "2 4|5 1", coin, true, -1)
		readsLine(t, cacheWith(2, 16, 1, "2 4|1 5", coin), 2, "4 2|1 5", coin, true, -1)
	}
}

func TestReadOfFullSets(t *testing.T) {
	t.Parallel()
	for _, coin := range []int{0, 7, 65535} {
		for _, policy := range []int{1, 2} {
			readsLine(t, cacheWith(1, 16, policy, "5", coin), 6, "6", coin, false, 5)
			readsLine(t, cacheWith(2, 16, policy, "5 1", coin), 6, "1 6", coin, false, 5)
			readsLine(t, cacheWith(4, 64, policy, "4 3 2 1", coin), 9, "3 2 1 9", coin, false, 4)
			readsLine(t, cacheWith(8, 16, policy, "9 8 7 6 5 4 3 2", coin), 0, "8 7 6 5 4 3 2 0", coin, false, 9)
			readsLine(t, cacheWith(2, 16, policy, "4 0|5 1|6 2|7 3", coin), 10, "4 0|5 1|2 10|7 3", coin, false, 6)
			readsLine(t, cacheWith(1, 16, policy, "0|1", coin), 2, "2|1", coin, false, 0)
		}
	}
}

// By KeepRandom: the coin goes on, and tells which one goes.
func TestReadOfFullSetsByTheCoin(t *testing.T) {
	t.Parallel()
	const random = impl.KeepRandom
	readsLine(t, cacheWith(1, 16, random, "5", 0), 6, "6", 13849, false, 5)
	readsLine(t, cacheWith(1, 16, random, "5", 13849), 6, "6", 48742, false, 5)
	// 13849, 48742, 31223, 17180 modulo 4 are 1, 2, 3, 0
	readsLine(t, cacheWith(4, 16, random, "1 2 3 4", 0), 5, "1 3 4 5", 13849, false, 2)
	readsLine(t, cacheWith(4, 16, random, "1 2 3 4", 13849), 5, "1 2 4 5", 48742, false, 3)
	readsLine(t, cacheWith(4, 16, random, "1 2 3 4", 48742), 5, "1 2 3 5", 31223, false, 4)
	readsLine(t, cacheWith(4, 16, random, "1 2 3 4", 31223), 5, "2 3 4 5", 17180, false, 1)
	// modulo 5: 4, 2; modulo 3: 1, 1; modulo 7: 3
	readsLine(t, cacheWith(5, 16, random, "1 2 3 4 5", 0), 9, "1 2 3 4 9", 13849, false, 5)
	readsLine(t, cacheWith(5, 16, random, "1 2 3 4 5", 13849), 9, "1 2 4 5 9", 48742, false, 3)
	readsLine(t, cacheWith(3, 16, random, "1 2 3", 13849), 9, "1 3 9", 48742, false, 2)
	readsLine(t, cacheWith(7, 16, random, "1 2 3 4 5 6 7", 0), 9, "1 2 3 5 6 7 9", 13849, false, 4)
	// 54212 comes behind 65535
	readsLine(t, cacheWith(2, 16, random, "1 2", 65535), 9, "2 9", 54212, false, 1)
	readsLine(t, cacheWith(2, 16, random, "2 4|3 1", 0), 5, "2 4|3 5", 13849, false, 1)
	readsLine(t, cacheWith(2, 16, random, "2 4|3 1", 13849), 5, "2 4|1 5", 48742, false, 3)
}

// By KeepRandom: what the lines are, and in which order they came, tells nothing.
func TestTheCoinAloneTells(t *testing.T) {
	t.Parallel()
	c := newChance(273)
	for ways := 1; ways <= 8; ways++ {
		for range 60 {
			coin := c.Intn(65536)
			number := (coin*25173 + 13849) % 65536 % ways
			for range 5 {
				lines := c.Perm(5000)[:ways+1]
				x := impl.Cache{Sets: 1, Ways: ways, Line: c.lineBytes(), Policy: impl.KeepRandom, Lines: [][]int{lines[:ways]}, Coin: coin}
				place := min(lines[ways]*x.Line, 1000000)
				if slices.Contains(lines[:ways], place/x.Line) {
					continue
				}
				then, hit, out := impl.CacheRead(x, place)
				if hit || out != lines[number] || then.Coin != (coin*25173+13849)%65536 {
					t.Errorf("of %v with the coin %d goes %d, the coin is %d", lines, coin, out, then.Coin)
				}
			}
		}
	}
}

func TestReadAtTheEndsOfPlaces(t *testing.T) {
	t.Parallel()
	for _, line := range []int{16, 32, 64, 128, 256} {
		for _, sets := range []int{1, 64} {
			x, _ := impl.NewCache(sets, 1, line, impl.KeepFirst)
			then, hit, out := impl.CacheRead(x, 1000000)
			last := 1000000 / line
			if hit || out != -1 || !slices.Equal(then.Lines[last%sets], []int{last}) {
				t.Errorf("the last place in %v: %v, %v, %d", x, then, hit, out)
			}
			then, hit, out = impl.CacheRead(then, 0)
			if gone := map[int]int{1: last, 64: -1}[sets]; last%64 != 0 && (hit || out != gone) || !slices.Equal(then.Lines[0], []int{0}) {
				t.Errorf("the first place behind the last one in %v: %v, %v, %d", x, then, hit, out)
			}
			for _, place := range wrongPlaces {
				if then, hit, out := impl.CacheRead(x, place); hit || out != -1 || !sameCache(then, impl.Cache{}) {
					t.Errorf("CacheRead(%v, %d) = %v, %v, %d", x, place, then, hit, out)
				}
			}
		}
	}
}

func TestReadOfNoCache(t *testing.T) {
	t.Parallel()
	for _, x := range []impl.Cache{{}, cacheWith(3, 16, 0, "1", 0), cacheWith(3, 16, 4, "1", 0), cacheWith(3, 16, 1, "1 1", 0), cacheWith(0, 16, 1, "", 0), cacheWith(1, 16, 3, "1 2", 0), cacheWith(1, 16, 3, "1", 65536), cacheWith(1, 0, 3, "1", 0), cacheWith(1, 16, 3, "1||", 0), cacheWith(1, 16, 3, "2|2", 0)} {
		for _, place := range []int{0, 16, 1000000, -1, math.MinInt} {
			if then, hit, out := impl.CacheRead(x, place); hit || out != -1 || !sameCache(then, impl.Cache{}) {
				t.Errorf("CacheRead(%v, %d) = %v, %v, %d", x, place, then, hit, out)
			}
		}
		for _, places := range [][]int{nil, {}, {0}} {
			if then, h, ok := impl.CacheAll(x, places); ok || !sameHits(h, impl.Hits{}) || !sameCache(then, impl.Cache{}) {
				t.Errorf("CacheAll(%v, %v) = %v, %v, %v", x, places, then, h, ok)
			}
			good := cacheWith(1, 16, 3, "1", 0)
			for _, levels := range [][]impl.Cache{{x}, {x, good}, {good, x}, {good, good, x}, {good, x, good}} {
				if m, ok := impl.ThroughLevels(levels, places); ok || !sameModel(m, impl.Model{}) {
					t.Errorf("ThroughLevels(%v, %v) = %v, %v", levels, places, m, ok)
				}
			}
		}
	}
}

// readsAll: what is left of a cache by the lines that are read, with what is told of them.
func readsAll(t *testing.T, c impl.Cache, read, lines string, coin, hits int, out string) {
	t.Helper()
	var places []int
	for _, line := range numbersOf(read) {
		places = append(places, line*c.Line+line%c.Line)
	}
	want := c
	want.Lines, want.Coin = setsOf(lines), coin
	told := impl.Hits{Hits: hits, Misses: len(places) - hits, Out: numbersOf(out)}
	if got, h, ok := impl.CacheAll(c, places); !ok || !sameCache(got, want) || !sameHits(h, told) {
		t.Errorf("CacheAll(%v, %v) = %v, %v, %v, want %v, %v", c, places, got, h, ok, want, told)
	}
	heldCacheAll(t, c, places)
}

func TestAllPlaces(t *testing.T) {
	t.Parallel()
	for policy := 1; policy <= 3; policy++ {
		readsAll(t, cacheWith(2, 16, policy, "", 9), "", "", 9, 0, "")
		readsAll(t, cacheWith(2, 16, policy, "4 2|", 9), "", "4 2|", 9, 0, "")
		readsAll(t, cacheWith(2, 16, policy, "", 9), "0 1", "0 1", 9, 0, "")
		readsAll(t, cacheWith(2, 16, policy, "", 9), "7 7 7 7", "7", 9, 3, "")
	}
	readsAll(t, cacheWith(2, 16, 1, "4 8|1|2|", 9), "4 4 3 5", "8 4|1 5|2|3", 9, 2, "")
	readsAll(t, cacheWith(2, 16, 2, "4 8|1|2|", 9), "4 4 3 5", "4 8|1 5|2|3", 9, 2, "")
	readsAll(t, cacheWith(2, 16, 3, "4 8|1|2|", 9), "4 4 3 5", "4 8|1 5|2|3", 9, 2, "")
	readsAll(t, cacheWith(2, 16, 1, "", 0), "0 1 0 2 0 1", "0 1", 0, 2, "1 2")
	readsAll(t, cacheWith(2, 16, 2, "", 0), "0 1 0 2 0 1", "0 1", 0, 1, "0 1 2")
	readsAll(t, cacheWith(1, 16, 1, "", 0), "0 1 0 0 1", "1", 0, 1, "0 1 0")
	readsAll(t, cacheWith(1, 16, 2, "4", 0), "0 1 0 0 1", "1", 0, 1, "4 0 1 0")
	readsAll(t, cacheWith(2, 32, 1, "0 2|1 3", 0), "4 5 0 1 0 6", "0 6|5 1", 0, 1, "0 1 2 3 4")
	// the coin goes on by each that is taken out: 1, 0, 1 modulo 2; 1, 2, 3, 0, 1 modulo 4
	readsAll(t, cacheWith(2, 16, 3, "", 0), "0 1 0 2 0 1 3", "2 3", 31223, 2, "1 0 1")
	readsAll(t, cacheWith(4, 16, 3, "1 2 3 4", 0), "5 6 7 8 1", "3 7 8 1", 13925, 0, "2 4 6 1 5")
}

func TestMostPlacesOfAll(t *testing.T) {
	t.Parallel()
	for policy := 1; policy <= 3; policy++ {
		x, _ := impl.NewCache(4, 2, 16, policy)
		for _, count := range []int{199, 200} {
			if h, ok := heldCacheAll(t, x, upTo(count)); !ok || h.Hits+h.Misses != count || h.Misses != (count+15)/16 {
				t.Errorf("of %d places: %v, %v", count, h, ok)
			}
		}
		for _, count := range []int{201, 202, 1000} {
			if then, h, ok := impl.CacheAll(x, upTo(count)); ok || !sameHits(h, impl.Hits{}) || !sameCache(then, impl.Cache{}) {
				t.Errorf("of %d places: %v, %v, %v", count, then, h, ok)
			}
		}
	}
}

// What all places do is what each of them does, one behind the other.
func TestAllPlacesAreOneByOne(t *testing.T) {
	t.Parallel()
	c := newChance(274)
	for range 600 {
		x := c.someCache()
		places := c.placesFor(x)
		then, want := x, impl.Hits{}
		for _, place := range places {
			next, hit, out := impl.CacheRead(then, place)
			if hit {
				want.Hits++
			} else {
				want.Misses++
			}
			if out != -1 {
				want.Out = append(want.Out, out)
			}
			then = next
		}
		got, h, ok := impl.CacheAll(x, places)
		if !ok || !sameHits(h, want) || len(places) > 0 && !sameCache(got, then) || len(places) == 0 && !sameCache(got, x) {
			t.Errorf("CacheAll(%v, %v) = %v, %v, one by one %v, %v", x, places, got, h, then, want)
		}
	}
}

// A place that is none, wherever it stands.
func TestAllPlacesWithOneThatIsNone(t *testing.T) {
	t.Parallel()
	x := cacheWith(2, 16, 1, "0|1", 0)
	for _, wrong := range wrongPlaces {
		for _, places := range [][]int{{wrong}, {wrong, 0}, {0, wrong}, {0, wrong, 16}, append(upTo(199), wrong)} {
			if heldTurns(t, places, 4) || heldCoalesced(t, places, 1, 16) {
				t.Errorf("%d is a place", wrong)
			}
			if _, ok := heldCacheAll(t, x, places); ok {
				t.Errorf("%d is a place", wrong)
			}
			if _, ok := heldThrough(t, []impl.Cache{x}, places); ok {
				t.Errorf("%d is a place", wrong)
			}
			if _, ok := heldLeast(t, places, 4, 16); ok {
				t.Errorf("%d is a place", wrong)
			}
		}
	}
	for _, places := range [][]int{{0, 1000000}, {1000000}, append(upTo(199), 1000000)} {
		if _, ok := heldCacheAll(t, x, places); !ok {
			t.Errorf("%v are none", places)
		}
	}
}

// through: hits of each level, and what no level has.
func through(t *testing.T, levels []impl.Cache, places []int, hits string, memory, cycles int) {
	t.Helper()
	want := impl.Model{Hits: numbersOf(hits), Memory: memory, Cycles: cycles}
	if got, ok := impl.ThroughLevels(levels, places); !ok || !sameModel(got, want) {
		t.Errorf("ThroughLevels(%v, %v) = %v, %v, want %v", levels, places, got, ok, want)
	}
	heldThrough(t, levels, places)
}

func TestLevelsWithoutPlaces(t *testing.T) {
	t.Parallel()
	x, y := cacheWith(2, 16, 1, "0|1", 0), cacheWith(1, 64, 3, "", 7)
	for _, none := range [][]int{nil, {}} {
		through(t, []impl.Cache{x}, none, "0", 0, 0)
		through(t, []impl.Cache{x, y}, none, "0 0", 0, 0)
		through(t, []impl.Cache{x, y, x}, none, "0 0 0", 0, 0)
		through(t, []impl.Cache{y, y, y}, none, "0 0 0", 0, 0)
	}
}

func TestCyclesOfLevels(t *testing.T) {
	t.Parallel()
	has, not := cacheWith(2, 16, 1, "5", 0), cacheWith(2, 16, 1, "", 0)
	through(t, []impl.Cache{has}, []int{80}, "1", 0, 4)
	through(t, []impl.Cache{not}, []int{80}, "0", 1, 400)
	through(t, []impl.Cache{has, not}, []int{80}, "1 0", 0, 4)
	through(t, []impl.Cache{not, has}, []int{80}, "0 1", 0, 20)
	through(t, []impl.Cache{not, not}, []int{80}, "0 0", 1, 400)
	through(t, []impl.Cache{has, has, has}, []int{80}, "1 0 0", 0, 4)
	through(t, []impl.Cache{not, has, has}, []int{80}, "0 1 0", 0, 20)
	through(t, []impl.Cache{not, not, has}, []int{80}, "0 0 1", 0, 80)
	through(t, []impl.Cache{not, not, not}, []int{80}, "0 0 0", 1, 400)
	// it is in all levels that were asked then
	through(t, []impl.Cache{not}, []int{80, 95, 81}, "2", 1, 408)
	through(t, []impl.Cache{not, has}, []int{80, 95, 81}, "2 1", 0, 28)
	through(t, []impl.Cache{not, not, has}, []int{80, 95, 81}, "2 0 1", 0, 88)
	through(t, []impl.Cache{not, not, not}, []int{80, 95, 81}, "2 0 0", 1, 408)
}

// What one level takes out, another one may still have; what is a hit is not asked
// of those behind.
func TestLevelsBehindEachOther(t *testing.T) {
	t.Parallel()
	one := cacheWith(1, 16, 2, "", 0)
	two, three := cacheWith(2, 16, 2, "", 0), cacheWith(3, 16, 2, "", 0)
	through(t, []impl.Cache{one, two}, []int{0, 16, 0, 16}, "0 2", 2, 840)
	through(t, []impl.Cache{two, one}, []int{0, 16, 0, 16}, "2 0", 2, 808)
	through(t, []impl.Cache{one, two, three}, []int{0, 16, 32, 0, 16, 32}, "0 0 3", 3, 1440)
	through(t, []impl.Cache{one, three, two}, []int{0, 16, 32, 0, 16, 32}, "0 3 0", 3, 1260)
	through(t, []impl.Cache{one, two, three}, []int{0, 16, 0, 32, 0, 32, 48, 0, 16, 16}, "1 3 2", 4, 1824)
	// by KeepOld the second level does not see the hits of the first one
	first, old := cacheWith(2, 16, 1, "", 0), cacheWith(2, 16, 1, "", 0)
	through(t, []impl.Cache{first, old}, []int{0, 16, 0, 32, 16}, "1 1", 3, 1224)
}

// Levels with lines of other lengths, other sets, and coins of their own.
func TestUnlikeLevels(t *testing.T) {
	t.Parallel()
	small, wide := cacheWith(1, 16, 1, "", 0), cacheWith(1, 256, 1, "", 0)
	through(t, []impl.Cache{small, wide}, []int{0, 16, 32, 255, 256, 0}, "0 3", 3, 1260)
	through(t, []impl.Cache{wide, small}, []int{0, 16, 32, 255, 256, 0}, "3 0", 3, 1212)
	// 0, 16 and 32 stay in three of four sets, of two sets 0 and 32 share one
	four, two := cacheWith(1, 16, 1, "|||", 0), cacheWith(1, 16, 1, "|", 0)
	through(t, []impl.Cache{four, small}, []int{0, 16, 32, 0, 16, 32}, "3 0", 3, 1212)
	through(t, []impl.Cache{two, four}, []int{0, 16, 32, 0, 16, 32}, "1 2", 3, 1244)
	// coins 0 and 13849 take out one each: 2 and 1
	coin, other := cacheWith(2, 16, 3, "1 2", 0), cacheWith(2, 16, 3, "1 2", 13849)
	through(t, []impl.Cache{coin, other}, []int{48, 16}, "1 0", 1, 404)
	through(t, []impl.Cache{other, coin}, []int{48, 16}, "0 1", 1, 420)
	through(t, []impl.Cache{coin, other}, []int{48, 32}, "0 1", 1, 420)
	through(t, []impl.Cache{other, coin}, []int{48, 32}, "1 0", 1, 404)
}

// One cache as several levels: each has its own lines.
func TestOneCacheAsSeveralLevels(t *testing.T) {
	t.Parallel()
	x := cacheWith(2, 16, 1, "1 2", 0)
	through(t, []impl.Cache{x, x, x}, []int{48, 16, 32, 48}, "0 0 0", 4, 1600)
	through(t, []impl.Cache{x, x, x}, []int{16, 48, 32, 16}, "1 1 0", 2, 824)
}

func TestHowManyLevels(t *testing.T) {
	t.Parallel()
	x := cacheWith(2, 16, 1, "1 2", 0)
	for count := range 7 {
		levels := slices.Repeat([]impl.Cache{x}, count)
		for _, places := range [][]int{nil, {16}, {0, 16}, upTo(200), upTo(201)} {
			_, ok := heldThrough(t, levels, places)
			if want := count >= 1 && count <= 3 && len(places) <= 200; ok != want {
				t.Errorf("%d levels and %d places: %v", count, len(places), ok)
			}
		}
	}
	if m, ok := impl.ThroughLevels(nil, nil); ok || !sameModel(m, impl.Model{}) {
		t.Errorf("no levels: %v", m)
	}
}

// least: of the lines that are read.
func least(t *testing.T, read string, ways, want int) {
	t.Helper()
	for _, line := range []int{16, 32, 64, 128, 256} {
		var places []int
		for at, number := range numbersOf(read) {
			places = append(places, number*line+at%line)
		}
		if got, ok := impl.LeastMisses(places, ways, line); got != want || !ok {
			t.Errorf("LeastMisses(%v, %d, %d) = %d, %v, want %d", places, ways, line, got, ok, want)
		}
		heldLeast(t, places, ways, line)
	}
}

func TestFewestMisses(t *testing.T) {
	t.Parallel()
	for ways := 1; ways <= 8; ways++ {
		least(t, "", ways, 0)
		least(t, "3", ways, 1)
		least(t, "3 3 3 3 3", ways, 1)
		least(t, "1 2 3 4 5 6 7 8 9", ways, 9)
		least(t, "1 2 3 4 5 6 7 8 1 2 3 4 5 6 7 8", ways, []int{0, 16, 14, 13, 12, 11, 10, 9, 8}[ways])
	}
	least(t, "0 1 2 0 1 2", 2, 4)
	least(t, "0 1 2 0 1 2", 1, 6)
	least(t, "0 1 2 0 1 2", 3, 3)
	least(t, "0 1 0 2 0 3 0 4 0", 2, 5)
	least(t, "0 1 0 2 0 3 0 4 0", 1, 9)
	least(t, "7 0 1 2 0 3 0 4 2 3 0 3 2 1 2 0 1 7 0 1", 3, 9)
	least(t, "1 2 3 4 1 2 5 1 2 3 4 5", 3, 7)
	least(t, "1 2 3 4 1 2 5 1 2 3 4 5", 4, 6)
}

// What is read must be laid down: a line that is read once takes a way, too.
func TestWhatIsReadIsLaidDown(t *testing.T) {
	t.Parallel()
	// if what does not come again could stay out there would be 3, 3 and 4 misses
	least(t, "1 2 1 3 1", 1, 5)
	least(t, "1 2 3 1 2", 2, 4)
	least(t, "1 2 4 1 2 5 1 2", 2, 6)
	least(t, "1 2 4 1 2 5 1 2", 3, 4)
}

func TestFewestMissesOfNothing(t *testing.T) {
	t.Parallel()
	for _, places := range [][]int{nil, {}, {0}, {0, 16, 32}} {
		for _, ways := range slices.Concat(farInts, []int{0, 9, 10, 16}) {
			if got, ok := impl.LeastMisses(places, ways, 16); got != 0 || ok {
				t.Errorf("LeastMisses(%v, %d, 16) = %d, %v", places, ways, got, ok)
			}
		}
		for _, line := range slices.Concat(farInts, []int{0, 1, 2, 4, 8, 15, 17, 24, 31, 33, 48, 96, 127, 129, 192, 255, 257, 384, 512}) {
			if got, ok := impl.LeastMisses(places, 2, line); got != 0 || ok {
				t.Errorf("LeastMisses(%v, 2, %d) = %d, %v", places, line, got, ok)
			}
		}
	}
}

func TestFewestMissesOfMostPlaces(t *testing.T) {
	t.Parallel()
	for ways := 1; ways <= 8; ways++ {
		for _, line := range []int{16, 32, 64, 128, 256} {
			if got, ok := impl.LeastMisses(upTo(200), ways, line); got != (200+line-1)/line || !ok {
				t.Errorf("of 200 places, %d ways and lines of %d: %d, %v", ways, line, got, ok)
			}
			if got, ok := impl.LeastMisses(upTo(201), ways, line); got != 0 || ok {
				t.Errorf("of 201 places, %d ways and lines of %d: %d, %v", ways, line, got, ok)
			}
			if got, ok := impl.LeastMisses(slices.Repeat([]int{5}, 201), ways, line); got != 0 || ok {
				t.Errorf("of one place 201 times: %d, %v", got, ok)
			}
		}
	}
}
