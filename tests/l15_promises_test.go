package tests

import (
	"math"
	"slices"
	"testing"

	"loop.example/g00053/impl"
)

// unlikeLines: how many lines of some places there are that a cache has not.
func unlikeLines(x impl.Cache, places []int) int {
	seen := map[int]bool{}
	for _, place := range places {
		if line := place / x.Line; !slices.Contains(x.Lines[line%x.Sets], line) {
			seen[line] = true
		}
	}
	return len(seen)
}

func countLines(x impl.Cache) int { return len(slices.Concat(x.Lines...)) }

// Promise 15: hits and misses are all; what came in and did not go is there, in a
// cache that is good.
func TestPromise15HitsAndMissesAreAll(t *testing.T) {
	t.Parallel()
	c := newChance(275)
	hits, misses := 0, 0
	for range 4000 {
		x := c.someCache()
		places := c.placesFor(x)
		then, h, ok := impl.CacheAll(x, places)
		if !ok || h.Hits < 0 || h.Misses < 0 || h.Hits+h.Misses != len(places) {
			t.Errorf("%v by %d places: %v, %v", x, len(places), h, ok)
		}
		if !impl.GoodCache(then) || countLines(then) != countLines(x)+h.Misses-len(h.Out) {
			t.Errorf("%v by %v has become %v, with %v", x, places, then, h)
		}
		if h.Misses < unlikeLines(x, places) {
			t.Errorf("%v by %v misses %d", x, places, h.Misses)
		}
		if len(places) > 0 {
			last := places[len(places)-1]
			if _, hit, _ := impl.CacheRead(then, last); !hit {
				t.Errorf("%v by %v has become %v, without %d", x, places, then, last)
			}
		}
		hits += h.Hits
		misses += h.Misses
	}
	if hits < 40000 || misses < 40000 {
		t.Errorf("%d hits, %d misses", hits, misses)
	}
}

// Promise 15: through levels, too, each is a hit somewhere, or the memory's. The
// first level does what it does alone, each further one adds what the others miss.
func TestPromise15LevelsHaveAll(t *testing.T) {
	t.Parallel()
	c := newChance(276)
	for range 2000 {
		levels := c.someLevels()
		places := c.placesFor(levels[0])
		m, ok := impl.ThroughLevels(levels, places)
		all, cycles := m.Memory, 400*m.Memory
		for number, n := range m.Hits {
			all += n
			cycles += n * [...]int{4, 20, 80}[number]
		}
		if !ok || len(m.Hits) != len(levels) || all != len(places) || cycles != m.Cycles {
			t.Errorf("%v by %v: %v, %v", levels, places, m, ok)
		}
		if _, h, _ := impl.CacheAll(levels[0], places); m.Hits[0] != h.Hits {
			t.Errorf("%v by %v: %v, the first one alone %v", levels, places, m, h)
		}
		if fewer, _ := impl.ThroughLevels(levels[:len(levels)-1], places); len(levels) > 1 && (!slices.Equal(fewer.Hits, m.Hits[:len(levels)-1]) || fewer.Memory != m.Memory+m.Hits[len(levels)-1]) {
			t.Errorf("%v by %v: %v, without the last one %v", levels, places, m, fewer)
		}
	}
}

// missesBy: of one set that begins without lines.
func missesBy(t *testing.T, places []int, ways, line, policy, coin int) int {
	t.Helper()
	x, ok := impl.NewCache(1, ways, line, policy)
	x.Coin = coin
	_, h, is := impl.CacheAll(x, places)
	if !ok || !is || h.Hits+h.Misses != len(places) {
		t.Errorf("%v by %v: %v, %v", x, places, h, is)
	}
	return h.Misses
}

// missesByChance: whatever is taken out.
func (c chance) missesByChance(places []int, ways, line int) int {
	var lines []int
	misses := 0
	for _, place := range places {
		if slices.Contains(lines, place/line) {
			continue
		}
		misses++
		if len(lines) == ways {
			out := c.Intn(ways)
			lines = slices.Delete(lines, out, out+1)
		}
		lines = append(lines, place/line)
	}
	return misses
}

// Promise 15: no policy misses less than the least.
func TestPromise15NoPolicyMissesLess(t *testing.T) {
	t.Parallel()
	c := newChance(277)
	alike, more := [4]int{}, [4]int{}
	for range 3000 {
		ways, line := 1+c.Intn(8), c.lineBytes()
		places := c.someAccesses(line)
		least, ok := impl.LeastMisses(places, ways, line)
		if !ok || least > len(places) || least < unlikeLines(impl.Cache{Sets: 1, Line: line, Lines: make([][]int, 1)}, places) {
			t.Errorf("LeastMisses(%v, %d, %d) = %d, %v", places, ways, line, least, ok)
		}
		for policy := 1; policy <= 3; policy++ {
			coins := []int{0}
			if policy == impl.KeepRandom {
				coins = []int{0, 65535, c.Intn(65536), c.Intn(65536)}
			}
			for _, coin := range coins {
				got := missesBy(t, places, ways, line, policy, coin)
				switch {
				case got < least:
					t.Errorf("%v, %d, %d: by %d %d misses, the least are %d", places, ways, line, policy, got, least)
				case got == least:
					alike[policy]++
				default:
					more[policy]++
				}
			}
		}
		for range 5 {
			if got := c.missesByChance(places, ways, line); got < least {
				t.Errorf("%v, %d, %d: by chance %d misses, the least are %d", places, ways, line, got, least)
			}
		}
	}
	for policy := 1; policy <= 3; policy++ {
		if alike[policy] < 500 || more[policy] < 500 {
			t.Errorf("by %d the least %d times, more %d times", policy, alike[policy], more[policy])
		}
	}
}

// The least is no less than what can be had: with one way there is no choice, with as
// many as there are lines none is taken out, and more ways miss no more.
func TestPromise15LeastByWays(t *testing.T) {
	t.Parallel()
	c := newChance(278)
	for range 1500 {
		line := c.lineBytes()
		places := c.someAccesses(line)
		lines, _ := impl.Coalesced(places, 1, line)
		before := len(places)
		for ways := 1; ways <= 8; ways++ {
			least, _ := impl.LeastMisses(places, ways, line)
			if least > before || least < len(lines) || len(lines) <= ways && least != len(lines) {
				t.Errorf("LeastMisses(%v, %d, %d) = %d, with one way less %d, of %d lines", places, ways, line, least, before, len(lines))
			}
			for policy := 1; ways == 1 && policy <= 3; policy++ {
				if got := missesBy(t, places, 1, line, policy, 0); got != least {
					t.Errorf("%v, 1, %d: by %d %d misses, the least are %d", places, line, policy, got, least)
				}
			}
			before = least
		}
	}
}

// anyNumber: most often one that may be good.
func (c chance) anyNumber(good ...int) int {
	if c.Intn(3) > 0 {
		return c.oneOf(good...)
	}
	return c.oneOf(append(slices.Clone(farInts), 0, 1, 2, 3, 4, 8, 9, 15, 16, 17, 48, 64, 65, 256, 257, 65535, 65536, 1000000, 1000001)...)
}

func (c chance) anyPlaces() []int {
	places := c.someAccesses(16)
	if c.Intn(9) == 0 {
		places = append(places, make([]int, 200)...)
	}
	if len(places) > 0 && c.Intn(2) == 0 {
		places[c.Intn(len(places))] = c.anyNumber(0, 16, 1000000)
	}
	return places
}

// changedCache: with one thing changed.
func (c chance) changedCache(x impl.Cache) impl.Cache {
	x.Lines = clonedRows(x.Lines)
	set := c.Intn(len(x.Lines))
	switch c.Intn(10) {
	case 0:
		x.Sets = c.anyNumber(1, 2, 4, 64)
	case 1:
		x.Ways = c.anyNumber(1, 2, 7, 8)
	case 2:
		x.Line = c.anyNumber(16, 32, 256)
	case 3:
		x.Policy = c.anyNumber(1, 2, 3)
	case 4:
		x.Coin = c.anyNumber(0, 1, 65535)
	case 5:
		x.Lines = x.Lines[:set]
	case 6:
		x.Lines = append(x.Lines, nil)
	case 7:
		x.Lines[set] = append(x.Lines[set], c.anyNumber(set, set+x.Sets, set+999936))
	case 8:
		if count := len(x.Lines[set]); count > 0 {
			x.Lines[set][c.Intn(count)] = c.anyNumber(set, set+x.Sets, set+999936)
		}
	case 9:
		x.Lines[c.Intn(len(x.Lines))] = slices.Clone(x.Lines[set])
	}
	return x
}

// Promise 25: numbers of any kind.
func TestPromise25AnyNumbersForMemory(t *testing.T) {
	t.Parallel()
	c := newChance(279)
	good := [4]int{}
	for range 20000 {
		places := c.anyPlaces()
		for at := range places {
			if c.Intn(40) > 0 {
				places[at] &^= 15
			}
		}
		line := c.anyNumber(16, 32, 64, 128, 256)
		if heldTurns(t, places, c.anyNumber(1, 2, 31, 64)) {
			good[0]++
		}
		if heldCoalesced(t, places, c.anyNumber(1, 2, 4, 8, 16), line) {
			good[1]++
		}
		if _, ok := heldLeast(t, places, c.anyNumber(1, 2, 3, 8), line); ok {
			good[2]++
		}
		if heldNew(t, c.anyNumber(1, 4, 64), c.anyNumber(1, 5, 8), line, c.anyNumber(1, 2, 3)) {
			good[3]++
		}
	}
	for number, n := range good {
		if n < 4000 || n > 16000 {
			t.Errorf("function %d: %d of 20000 are as said", number, n)
		}
	}
}

// Promise 25: caches with one thing changed, and places that may be none.
func TestPromise25AnyCaches(t *testing.T) {
	t.Parallel()
	c := newChance(280)
	good, models := 0, 0
	for range 8000 {
		was := c.someCache()
		x := c.changedCache(was)
		heldCacheRead(t, x, c.anyNumber(0, 1, 16, 1000000, c.placeFor(was)))
		heldCacheAll(t, x, c.anyPlaces())
		if heldGoodCache(t, x) {
			good++
		}
		levels := c.someLevels()
		levels[c.Intn(len(levels))] = x
		if c.Intn(5) == 0 {
			levels = append(levels, was)
		}
		if _, ok := heldThrough(t, levels, c.someAccesses(16)); ok {
			models++
		}
	}
	if good < 2000 || good > 6000 || models < 1500 || models > 6000 {
		t.Errorf("of 8000 %d are good, %d go as levels", good, models)
	}
}

// Promise 25: nothing at all, and far too much.
func TestPromise25NoMemoryAndTooMuch(t *testing.T) {
	t.Parallel()
	many := slices.Repeat([]int{math.MinInt, 0, 16, math.MaxInt}, 1<<18)
	zeros := make([]int, 1<<20)
	x, _ := impl.NewCache(2, 2, 16, impl.KeepOld)
	for _, places := range [][]int{nil, {}, many, zeros} {
		good := len(places) == 0
		if heldTurns(t, places, 1) != good || heldCoalesced(t, places, 1, 16) != good {
			t.Errorf("%d places", len(places))
		}
		if _, ok := heldLeast(t, places, 1, 16); ok != good {
			t.Errorf("%d places", len(places))
		}
		if _, ok := heldCacheAll(t, x, places); ok != good {
			t.Errorf("%d places", len(places))
		}
		if _, ok := heldThrough(t, []impl.Cache{x}, places); ok != good {
			t.Errorf("%d places", len(places))
		}
	}
	wide, deep := x, x
	wide.Lines = make([][]int, 1<<20)
	deep.Lines = [][]int{zeros, many}
	for _, x := range []impl.Cache{wide, deep} {
		then, hit, out := impl.CacheRead(x, 0)
		if impl.GoodCache(x) || hit || out != -1 || !sameCache(then, impl.Cache{}) {
			t.Errorf("a cache of %d sets is read as %v", len(x.Lines), then)
		}
	}
	if m, ok := impl.ThroughLevels(slices.Repeat([]impl.Cache{x}, 1<<20), nil); ok || !sameModel(m, impl.Model{}) {
		t.Errorf("very many levels: %v", m)
	}
}

// Promise 25: the empty list and the nil list are the same.
func TestPromise25EmptySets(t *testing.T) {
	t.Parallel()
	c := newChance(281)
	for range 300 {
		x := c.someCache()
		other := x
		other.Lines = nil
		for _, lines := range x.Lines {
			other.Lines = append(other.Lines, append([]int{}, lines...))
		}
		places := c.placesFor(x)
		then, h, _ := impl.CacheAll(x, places)
		thenToo, hToo, ok := impl.CacheAll(other, places)
		if !ok || !sameCache(then, thenToo) || !sameHits(h, hToo) {
			t.Errorf("%v is read otherwise with empty sets", x)
		}
	}
}

// cutFromOne: a cache whose lists lie in one piece of memory, each with the others and
// marks behind its length; and that memory, and that of the lists.
func cutFromOne(x impl.Cache) (impl.Cache, []int, [][]int) {
	var memory []int
	for _, lines := range x.Lines {
		memory = append(append(memory, lines...), -5)
	}
	memory = append(memory, -6, -7, -8, -9)
	var lists [][]int
	at := 0
	for _, lines := range x.Lines {
		lists = append(lists, memory[at:at+len(lines)])
		at += len(lines) + 1
	}
	lists = append(lists, memory, nil)
	x.Lines = lists[:len(x.Lines)]
	return x, memory, lists
}

// listsApart: each list of an answer has its own memory, also behind its length.
func listsApart(t *testing.T, what string, lists ...[]int) {
	t.Helper()
	for at := range lists {
		whole := lists[at][:cap(lists[at])]
		for n := range whole {
			whole[n] = -100 - at
		}
		lists[at] = append(lists[at], -100-at)
	}
	for at, l := range lists {
		if slices.ContainsFunc(l, func(n int) bool { return n != -100-at }) {
			t.Errorf("%s: list %d is %v, and shares its memory", what, at, l)
		}
	}
}

func clonedCache(x impl.Cache) impl.Cache {
	x.Lines = clonedRows(x.Lines)
	return x
}

// Promise 25: nothing is written into a cache, and no answer shares its memory, that
// of another one, or that of another list of its own.
func TestPromise25CachesKeepWhatIsGiven(t *testing.T) {
	t.Parallel()
	c := newChance(282)
	for n := range 900 {
		was := c.someCache()
		x, memory, lists := cutFromOne(was)
		kept, keptLists := slices.Clone(memory), clonedRows(lists)
		places := c.placesFor(was)
		given := behind(places)
		place := c.placeFor(was)
		call := func() (impl.Cache, impl.Hits) { then, h, _ := impl.CacheAll(x, given); return then, h }
		if n%2 == 0 {
			call = func() (impl.Cache, impl.Hits) { then, _, _ := impl.CacheRead(x, place); return then, impl.Hits{} }
		}
		then, h := call()
		again, hAgain := call()
		wantThen, wantHits := clonedCache(again), slices.Clone(hAgain.Out)
		if !sameCache(then, again) || !sameHits(h, hAgain) {
			t.Errorf("%v is read otherwise again", was)
		}
		listsApart(t, "a cache", append(slices.Clone(then.Lines), h.Out)...)
		clear(then.Lines[:cap(then.Lines)])
		impl.ThroughLevels([]impl.Cache{x, x}, given)
		impl.GoodCache(x)
		if !sameCache(again, wantThen) || !slices.Equal(hAgain.Out, wantHits) {
			t.Errorf("what is answered of %v is changed by another answer", was)
		}
		if !slices.Equal(memory, kept) || !sameRows(lists, keptLists) || !unchanged(given, places) {
			t.Errorf("%v, or what lies behind it, is changed", was)
		}
		for at := range memory {
			memory[at] = -3
		}
		clear(lists)
		clear(given[:cap(given)])
		if !sameCache(again, wantThen) || !slices.Equal(hAgain.Out, wantHits) {
			t.Errorf("%v is answered with what it was given", was)
		}
	}
}

// Promise 25: the same of the other functions.
func TestPromise25PlacesStayAsTheyAre(t *testing.T) {
	t.Parallel()
	c := newChance(283)
	for range 600 {
		line, ways := c.lineBytes(), 1+c.Intn(8)
		places, levels := c.someAccesses(line), c.someLevels()
		apartFrom(t, "BankTurns", places, func(l []int) []int { n, _ := impl.BankTurns(l, 32); return []int{n} })
		apartFrom(t, "Coalesced", places, func(l []int) []int { lines, _ := impl.Coalesced(l, 1, line); return lines })
		apartFrom(t, "LeastMisses", places, func(l []int) []int { n, _ := impl.LeastMisses(l, ways, line); return []int{n} })
		apartFrom(t, "ThroughLevels", places, func(l []int) []int { m, _ := impl.ThroughLevels(levels, l); return m.Hits })
		apartFrom(t, "CacheAll", places, func(l []int) []int { _, h, _ := impl.CacheAll(levels[0], l); return h.Out })
		shapes := levels[0]
		x, _ := impl.NewCache(shapes.Sets, shapes.Ways, shapes.Line, shapes.Policy)
		listsApart(t, "NewCache", slices.Clone(x.Lines)...)
		clear(x.Lines)
		heldNew(t, shapes.Sets, shapes.Ways, shapes.Line, shapes.Policy)
	}
}

// Promise 25: what lies behind the length of places, levels and lines is not looked
// at.
func TestPromise25BehindMemory(t *testing.T) {
	t.Parallel()
	c := newChance(284)
	for range 600 {
		levels := c.someLevels()
		line := levels[0].Line
		places := c.placesFor(levels[0])
		long := append(slices.Clone(places), -1, 3, 1000001)[:len(places)]
		more := append(slices.Clone(levels), impl.Cache{}, levels[0])[:len(levels)]
		for at := range more {
			more[at], _, _ = cutFromOne(more[at])
		}
		if m, ok := heldThrough(t, more, long); !ok || len(m.Hits) != len(levels) {
			t.Errorf("%v: %v", levels, m)
		}
		heldCacheAll(t, more[0], long)
		heldCacheRead(t, more[0], c.placeFor(levels[0]))
		heldGoodCache(t, more[0])
		heldTurns(t, long, 16)
		heldCoalesced(t, long, 1, line)
		heldLeast(t, long, 4, line)
	}
}

// Promise 25: answers hang on what is given alone, whatever was asked between.
func TestPromise25MemoryAgain(t *testing.T) {
	t.Parallel()
	c := newChance(285)
	for range 200 {
		levels := c.someLevels()
		places := c.placesFor(levels[0])
		then, h, _ := impl.CacheAll(levels[0], places)
		m, _ := impl.ThroughLevels(levels, places)
		n, _ := impl.LeastMisses(places, 3, 16)
		for range 3 {
			heldCacheAll(t, c.someCache(), c.someAccesses(16))
			heldThrough(t, c.someLevels(), c.someAccesses(64))
			heldLeast(t, c.someAccesses(16), 4, 16)
			heldCacheRead(t, impl.Cache{}, -1)
			thenAgain, hAgain, _ := impl.CacheAll(clonedCache(levels[0]), slices.Clone(places))
			mAgain, _ := impl.ThroughLevels(slices.Clone(levels), slices.Clone(places))
			nAgain, _ := impl.LeastMisses(slices.Clone(places), 3, 16)
			if !sameCache(thenAgain, then) || !sameHits(hAgain, h) || !sameModel(mAgain, m) || nAgain != n {
				t.Errorf("%v by %v is told otherwise again", levels, places)
			}
		}
	}
}
