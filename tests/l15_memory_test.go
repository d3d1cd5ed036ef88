package tests

import (
	"slices"
	"testing"

	"loop.example/g00053/impl"
)

func sameCache(a, b impl.Cache) bool {
	return a.Sets == b.Sets && a.Ways == b.Ways && a.Line == b.Line && a.Policy == b.Policy && a.Coin == b.Coin && sameRows(a.Lines, b.Lines)
}

func sameHits(a, b impl.Hits) bool {
	return a.Hits == b.Hits && a.Misses == b.Misses && slices.Equal(a.Out, b.Out)
}

func sameModel(a, b impl.Model) bool {
	return a.Memory == b.Memory && a.Cycles == b.Cycles && slices.Equal(a.Hits, b.Hits)
}

// briefly: the beginning of a list that may be long.
func briefly[T any](l []T) []T { return l[:min(len(l), 250)] }

// Each heldX: a function answers, at any arguments, as it is worked out another way;
// whether these are as said.

func heldTurns(t *testing.T, places []int, banks int) bool {
	t.Helper()
	want, good := wantTurns(places, banks)
	if got, ok := impl.BankTurns(places, banks); got != want || ok != good {
		t.Errorf("BankTurns(%v, %d) = %d, %v, want %d, %v", briefly(places), banks, got, ok, want, good)
	}
	return good
}

func heldCoalesced(t *testing.T, places []int, size, line int) bool {
	t.Helper()
	want, good := wantLines(places, size, line)
	if got, ok := impl.Coalesced(places, size, line); !slices.Equal(got, want) || ok != good {
		t.Errorf("Coalesced(%v, %d, %d) = %v, %v, want %v, %v", briefly(places), size, line, got, ok, want, good)
	}
	return good
}

func heldNew(t *testing.T, sets, ways, line, policy int) bool {
	t.Helper()
	want, good := impl.Cache{}, wantShape(sets, ways, line, policy)
	if good {
		want = impl.Cache{Sets: sets, Ways: ways, Line: line, Policy: policy, Lines: make([][]int, sets)}
	}
	got, ok := impl.NewCache(sets, ways, line, policy)
	if !sameCache(got, want) || ok != good || impl.GoodCache(got) != good {
		t.Errorf("NewCache(%d, %d, %d, %d) = %v, %v, want %v, %v", sets, ways, line, policy, got, ok, want, good)
	}
	return good
}

func heldGoodCache(t *testing.T, c impl.Cache) bool {
	t.Helper()
	want := wantCache(c)
	if got := impl.GoodCache(c); got != want {
		t.Errorf("GoodCache(%v) = %v", c, got)
	}
	return want
}

func heldCacheRead(t *testing.T, c impl.Cache, place int) (bool, int) {
	t.Helper()
	want, hit, out := wantCacheRead(c, place)
	got, is, gone := impl.CacheRead(c, place)
	if !sameCache(got, want) || is != hit || gone != out {
		t.Errorf("CacheRead(%v, %d) = %v, %v, %d, want %v, %v, %d", c, place, got, is, gone, want, hit, out)
	}
	return hit, out
}

func heldCacheAll(t *testing.T, c impl.Cache, places []int) (impl.Hits, bool) {
	t.Helper()
	want, hits, good := wantAll(c, places)
	got, h, ok := impl.CacheAll(c, places)
	if !sameCache(got, want) || !sameHits(h, hits) || ok != good {
		t.Errorf("CacheAll(%v, %v) = %v, %v, %v, want %v, %v, %v", c, briefly(places), got, h, ok, want, hits, good)
	}
	return hits, good
}

func heldThrough(t *testing.T, levels []impl.Cache, places []int) (impl.Model, bool) {
	t.Helper()
	want, good := wantModel(levels, places)
	if got, ok := impl.ThroughLevels(levels, places); !sameModel(got, want) || ok != good {
		t.Errorf("ThroughLevels(%v, %v) = %v, %v, want %v, %v", briefly(levels), briefly(places), got, ok, want, good)
	}
	return want, good
}

func heldLeast(t *testing.T, places []int, ways, line int) (int, bool) {
	t.Helper()
	want, good := wantLeast(places, ways, line)
	if got, ok := impl.LeastMisses(places, ways, line); got != want || ok != good {
		t.Errorf("LeastMisses(%v, %d, %d) = %d, %v, want %d, %v", briefly(places), ways, line, got, ok, want, good)
	}
	return want, good
}

// oneOf: one of some numbers.
func (c chance) oneOf(l ...int) int { return l[c.Intn(len(l))] }

func (c chance) lineBytes() int { return c.oneOf(16, 32, 64, 128, 256) }

// accesses: places in few lines or in many, close to each other or far off, some of
// them in a row or again and again.
func (c chance) accesses(count, line int) []int {
	span := c.oneOf(2, 4, 7, 12, 40, 200) * line
	if c.Intn(6) == 0 {
		span = 1000001
	}
	from := c.oneOf(0, 0, c.Intn(1000001), 1000000)
	stride := c.oneOf(0, 1, 4, line, 2*line, 64*line)
	var places []int
	for n := range count {
		place := from + c.Intn(span)
		switch c.Intn(4) {
		case 0:
			place = from + n%16*stride
		case 1:
			if n > 0 {
				place = places[c.Intn(n)]
			}
		}
		places = append(places, place%1000001)
	}
	return places
}

func (c chance) someAccesses(line int) []int {
	return c.accesses(c.oneOf(0, 1, 2, c.Intn(12), c.Intn(60), c.Intn(201), 200), line)
}

// shapedCache: without lines.
func (c chance) shapedCache() impl.Cache {
	sets := c.oneOf(1, 1, 2, 4, 8, 16, 32, 64)
	return impl.Cache{Sets: sets, Ways: 1 + c.Intn(8), Line: c.lineBytes(), Policy: 1 + c.Intn(3), Lines: make([][]int, sets)}
}

// someCache: with lines, most of them such as small places are in.
func (c chance) someCache() impl.Cache {
	x := c.shapedCache()
	x.Coin = c.oneOf(0, 1, 65535, c.Intn(65536), c.Intn(65536))
	full := c.Intn(4)
	for set := range x.Lines {
		count := []int{0, c.Intn(x.Ways + 1), c.Intn(x.Ways + 1), x.Ways}[full]
		step := c.oneOf(1, 1, 1, 3, (1000000-63)/x.Sets/(8*x.Ways))
		for _, n := range c.Perm(2 * x.Ways)[:count] {
			x.Lines[set] = append(x.Lines[set], n*step*x.Sets+set)
		}
	}
	return x
}

// placeFor: often one whose line is there.
func (c chance) placeFor(x impl.Cache) int {
	lines := slices.Concat(x.Lines...)
	line := c.Intn(3 * x.Sets * x.Ways)
	if len(lines) > 0 && c.Intn(2) == 0 {
		line = lines[c.Intn(len(lines))]
	}
	return min(line*x.Line+c.Intn(x.Line), 1000000)
}

func (c chance) placesFor(x impl.Cache) []int {
	places := c.someAccesses(x.Line)
	for at := range places {
		if c.Intn(2) == 0 {
			places[at] = c.placeFor(x)
		}
	}
	return places
}

func TestBanksOfDrawnPlaces(t *testing.T) {
	t.Parallel()
	c := newChance(266)
	for range 6000 {
		if !heldTurns(t, c.someAccesses(c.oneOf(1, 4, 16)), 1+c.Intn(64)) {
			t.Error("places are not as said")
		}
	}
}

func TestLinesOfDrawnPlaces(t *testing.T) {
	t.Parallel()
	c := newChance(267)
	good := 0
	for n := range 6000 {
		size, line := c.oneOf(1, 2, 4, 8, 16), c.lineBytes()
		places := c.someAccesses(line)
		for at := range places {
			if n%4 > 0 || c.Intn(9) > 0 {
				places[at] -= places[at] % size
			}
		}
		if heldCoalesced(t, places, size, line) {
			good++
		}
	}
	if good < 4800 || good > 5800 {
		t.Errorf("%d of 6000 are good", good)
	}
}

func TestReadingDrawnCaches(t *testing.T) {
	t.Parallel()
	c := newChance(268)
	hits, gone := [4]int{}, [4]int{}
	for range 12000 {
		x := c.someCache()
		heldGoodCache(t, x)
		hit, out := heldCacheRead(t, x, c.placeFor(x))
		if hit {
			hits[x.Policy]++
		}
		if out >= 0 {
			gone[x.Policy]++
		}
	}
	for policy := 1; policy <= 3; policy++ {
		if hits[policy] < 1000 || gone[policy] < 600 {
			t.Errorf("by %d: %d hits, %d are taken out", policy, hits[policy], gone[policy])
		}
	}
}

func TestReadingAllOfDrawnPlaces(t *testing.T) {
	t.Parallel()
	c := newChance(269)
	hits, misses, gone := [4]int{}, [4]int{}, [4]int{}
	for range 3000 {
		x := c.someCache()
		h, ok := heldCacheAll(t, x, c.placesFor(x))
		if !ok {
			t.Errorf("%v is not as said", x)
		}
		hits[x.Policy] += h.Hits
		misses[x.Policy] += h.Misses
		gone[x.Policy] += len(h.Out)
	}
	for policy := 1; policy <= 3; policy++ {
		if hits[policy] < 5000 || misses[policy] < 5000 || gone[policy] < 4000 {
			t.Errorf("by %d: %d hits, %d misses, %d are taken out", policy, hits[policy], misses[policy], gone[policy])
		}
	}
}

func (c chance) someLevels() []impl.Cache {
	var levels []impl.Cache
	for range 1 + c.Intn(3) {
		levels = append(levels, c.someCache())
	}
	return levels
}

func TestDrawnLevels(t *testing.T) {
	t.Parallel()
	c := newChance(270)
	var hits [3]int
	memory := 0
	for range 3000 {
		levels := c.someLevels()
		m, ok := heldThrough(t, levels, c.placesFor(levels[c.Intn(len(levels))]))
		if !ok {
			t.Errorf("%v are not as said", levels)
		}
		for number, n := range m.Hits {
			hits[number] += n
		}
		memory += m.Memory
	}
	if min(hits[0], hits[1], hits[2], memory) < 3000 {
		t.Errorf("hits %v, and %d of the memory", hits, memory)
	}
}

func TestLeastMissesOfDrawnPlaces(t *testing.T) {
	t.Parallel()
	c := newChance(271)
	for range 4000 {
		line := c.lineBytes()
		if _, ok := heldLeast(t, c.someAccesses(line), 1+c.Intn(8), line); !ok {
			t.Error("places are not as said")
		}
	}
}

// heldByAllChoices: for few places, both ways to work it out.
func heldByAllChoices(t *testing.T, places []int, ways, line int) {
	t.Helper()
	want := leastByAllChoices(places, ways, line)
	if got, ok := heldLeast(t, places, ways, line); got != want || !ok {
		t.Errorf("the fewest misses of %v, %d, %d are %d by stretches, %d by all choices", places, ways, line, got, want)
	}
}

// The fewest misses of all choices, for every row of few lines.
func TestLeastMissesOfEveryFewLines(t *testing.T) {
	t.Parallel()
	for lines := 1; lines <= 4; lines++ {
		for count := 0; count <= 7; count++ {
			all := 1
			for range count {
				all *= lines
			}
			for number := range all {
				var places []int
				for left := number; len(places) < count; left /= lines {
					places = append(places, left%lines*16+left%3)
				}
				for ways := 1; ways <= 4; ways++ {
					heldByAllChoices(t, places, ways, 16)
				}
			}
		}
	}
}

// The fewest misses of all choices, for drawn places and all ways.
func TestLeastMissesOfAllChoices(t *testing.T) {
	t.Parallel()
	c := newChance(272)
	for range 400 {
		for ways := 1; ways <= 8; ways++ {
			line := c.lineBytes()
			var places []int
			for range c.Intn(19) {
				places = append(places, c.Intn(line*(ways+1+c.Intn(3))))
			}
			heldByAllChoices(t, places, ways, line)
		}
	}
}
