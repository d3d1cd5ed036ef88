package tests

import (
	"maps"
	"slices"
	"strconv"
	"strings"

	"loop.example/g00053/impl"
)

// Memory another way: all lines of a cache stand in one map, each with the moment
// that counts for its place among the others; levels are asked one behind the other,
// the next one what the one ahead missed; the fewest misses are those of all choices,
// or, for many places, of the most stretches for which a line can be kept.

var wantPowers = []int{1, 2, 4, 8, 16, 32, 64, 128, 256}

// wantPower: whether a number is one of the powers of two between two of them.
func wantPower(n, least, greatest int) bool {
	return slices.Contains(wantPowers, n) && n >= least && n <= greatest
}

func wantPlaces(places []int) bool {
	return len(places) <= 200 && !slices.ContainsFunc(places, func(place int) bool { return place < 0 || place > 1000000 })
}

func wantTurns(places []int, banks int) (int, bool) {
	if !wantPlaces(places) || banks < 1 || banks > 64 {
		return 0, false
	}
	most := 0
	for bank := range banks {
		words := map[int]bool{}
		for _, word := range places {
			if (word-bank)%banks == 0 {
				words[word] = true
			}
		}
		most = max(most, len(words))
	}
	return most, true
}

// wantLines: byte by byte.
func wantLines(places []int, size, line int) ([]int, bool) {
	if !wantPlaces(places) || !wantPower(size, 1, 16) || !wantPower(line, 16, 256) {
		return nil, false
	}
	lines := map[int]bool{}
	for _, place := range places {
		if place/size*size != place {
			return nil, false
		}
		for at := place; at < place+size; at++ {
			lines[at/line] = true
		}
	}
	return slices.Sorted(maps.Keys(lines)), true
}

func wantShape(sets, ways, line, policy int) bool {
	return wantPower(sets, 1, 64) && ways >= 1 && ways <= 8 && wantPower(line, 16, 256) && slices.Contains([]int{1, 2, 3}, policy)
}

func wantCache(c impl.Cache) bool {
	if !wantShape(c.Sets, c.Ways, c.Line, c.Policy) || len(c.Lines) != c.Sets || c.Coin < 0 || c.Coin > 65535 {
		return false
	}
	seen := map[int]bool{}
	for set, lines := range c.Lines {
		if len(lines) > c.Ways {
			return false
		}
		for _, line := range lines {
			if line < 0 || line > 1000000 || (line-set)%c.Sets != 0 || seen[line] {
				return false
			}
			seen[line] = true
		}
	}
	return true
}

// shelf: a good cache as moments.
type shelf struct {
	impl.Cache
	moments map[int]int // of each line: when it was laid down, or, by KeepOld, read
	clock   int
	coin    uint16
}

func shelfOf(c impl.Cache) *shelf {
	s := &shelf{Cache: c, moments: map[int]int{}, coin: uint16(c.Coin)}
	for _, lines := range c.Lines {
		for _, line := range lines {
			s.touch(line)
		}
	}
	return s
}

func (s *shelf) touch(line int) {
	s.clock++
	s.moments[line] = s.clock
}

// inSet: its lines by their moments.
func (s *shelf) inSet(set int) []int {
	var lines []int
	for line := range s.moments {
		if line%s.Sets == set {
			lines = append(lines, line)
		}
	}
	slices.SortFunc(lines, func(a, b int) int { return s.moments[a] - s.moments[b] })
	return lines
}

func (s *shelf) read(place int) (hit bool, out int) {
	line := (place - place%s.Line) / s.Line
	_, hit = s.moments[line]
	if !hit || s.Policy == 1 {
		s.touch(line)
	}
	lines := s.inSet(line % s.Sets)
	if len(lines) <= s.Ways {
		return hit, -1
	}
	out = lines[0]
	if s.Policy == 3 {
		s.coin = s.coin*25173 + 13849
		out = lines[int(s.coin)%s.Ways]
	}
	delete(s.moments, out)
	return hit, out
}

func (s *shelf) cache() impl.Cache {
	c := impl.Cache{Sets: s.Sets, Ways: s.Ways, Line: s.Line, Policy: s.Policy, Coin: int(s.coin)}
	for set := range s.Sets {
		c.Lines = append(c.Lines, s.inSet(set))
	}
	return c
}

func wantCacheRead(c impl.Cache, place int) (impl.Cache, bool, int) {
	if !wantCache(c) || !wantPlaces([]int{place}) {
		return impl.Cache{}, false, -1
	}
	s := shelfOf(c)
	hit, out := s.read(place)
	return s.cache(), hit, out
}

// readAll: of good places; those that were no hits, too.
func (s *shelf) readAll(places []int) (impl.Hits, []int) {
	var h impl.Hits
	var missed []int
	for _, place := range places {
		hit, out := s.read(place)
		if hit {
			h.Hits++
		} else {
			missed = append(missed, place)
		}
		if out >= 0 {
			h.Out = append(h.Out, out)
		}
	}
	h.Misses = len(missed)
	return h, missed
}

func wantAll(c impl.Cache, places []int) (impl.Cache, impl.Hits, bool) {
	if !wantCache(c) || !wantPlaces(places) {
		return impl.Cache{}, impl.Hits{}, false
	}
	s := shelfOf(c)
	h, _ := s.readAll(places)
	return s.cache(), h, true
}

// wantModel: level by level.
func wantModel(levels []impl.Cache, places []int) (impl.Model, bool) {
	wrong := func(c impl.Cache) bool { return !wantCache(c) }
	if len(levels) == 0 || len(levels) > 3 || slices.ContainsFunc(levels, wrong) || !wantPlaces(places) {
		return impl.Model{}, false
	}
	var m impl.Model
	left := places
	for number, c := range levels {
		h, missed := shelfOf(c).readAll(left)
		m.Hits = append(m.Hits, h.Hits)
		m.Cycles += h.Hits * []int{4, 20, 80}[number]
		left = missed
	}
	m.Memory = len(left)
	m.Cycles += 400 * len(left)
	return m, true
}

func wantLeastAsSaid(places []int, ways, line int) bool {
	return wantPlaces(places) && ways >= 1 && ways <= 8 && wantPower(line, 16, 256)
}

// leastByAllChoices: by every set of lines that can be there behind each place, with
// the fewest misses that lead to it.
func leastByAllChoices(places []int, ways, line int) int {
	states := map[string]int{"": 0}
	for _, place := range places {
		next := map[string]int{}
		put := func(lines []string, misses int) {
			slices.Sort(lines)
			name := strings.Join(lines, " ")
			if had, ok := next[name]; !ok || misses < had {
				next[name] = misses
			}
		}
		asked := strconv.Itoa(place / line)
		for name, misses := range states {
			lines := strings.Fields(name)
			switch {
			case slices.Contains(lines, asked):
				put(lines, misses)
			case len(lines) < ways:
				put(append(lines, asked), misses+1)
			default:
				for out := range lines {
					other := slices.Clone(lines)
					other[out] = asked
					put(other, misses+1)
				}
			}
		}
		states = next
	}
	return slices.Min(slices.Collect(maps.Values(states)))
}

// leastByStretches: a line that is read again is a hit just where it is kept from its
// last reading on. At each place between the line that is read there takes one way, so
// that one less is left for those that are kept. The stretches that end first are
// taken first, each where there is room for it.
func leastByStretches(places []int, ways, line int) int {
	kept := make([]int, len(places))
	hits := 0
	for end, place := range places {
		begin := end - 1
		for begin >= 0 && places[begin]/line != place/line {
			begin--
		}
		if begin < 0 {
			continue
		}
		between := kept[begin+1 : end]
		if slices.ContainsFunc(between, func(n int) bool { return n >= ways-1 }) {
			continue
		}
		for at := range between {
			between[at]++
		}
		hits++
	}
	return len(places) - hits
}

func wantLeast(places []int, ways, line int) (int, bool) {
	if !wantLeastAsSaid(places, ways, line) {
		return 0, false
	}
	return leastByStretches(places, ways, line), true
}
