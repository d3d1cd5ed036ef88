package tests

import (
	"cmp"
	"maps"
	"slices"

	"loop.example/g00053/impl"
)

// Chapter 20 worked out another way: pools byte by byte, each with the hold that lies on
// it; what is put out by the moments upwards; the places of things tried one by one.

// wantedAligns: all that a hold may have.
func wantedAligns() []int { return []int{1, 2, 4, 8, 16, 32, 64, 128, 256} }

// sizedAsSaid: whether all but the place of a hold is as said.
func sizedAsSaid(p impl.Pool, h impl.Hold) bool {
	return h.Id >= 0 && h.Id < 1000 && h.Size > 0 && h.Size <= p.Room && slices.Contains(wantedAligns(), h.Align) && h.Last > 0 && h.Last <= p.Clock
}

// bytesOf: for each byte of a pool how many near holds lie on it; false where one of
// them is not wholly within it, at a multiple of its Align.
func bytesOf(p impl.Pool) ([]int, bool) {
	bytes := make([]int, p.Room)
	for _, h := range p.Near {
		if !sizedAsSaid(p, h) || h.At < 0 || h.At >= p.Room || h.At%h.Align != 0 {
			return nil, false
		}
		for at := h.At; at < h.At+h.Size; at++ {
			if at >= p.Room {
				return nil, false
			}
			bytes[at]++
		}
	}
	return bytes, true
}

func wantRoom(room int) bool { return room > 0 && room <= 4096 }

func wantGoodPool(p impl.Pool) bool {
	if !wantRoom(p.Room) || p.Clock < 0 || p.Clock > 100000 {
		return false
	}
	bytes, ok := bytesOf(p)
	if !ok || len(bytes) > 0 && slices.Max(bytes) > 1 {
		return false
	}
	ids, lasts := map[int]bool{}, map[int]bool{}
	for _, h := range slices.Concat(p.Near, p.Far) {
		ids[h.Id], lasts[h.Last] = true, true
	}
	count := len(p.Near) + len(p.Far)
	if count > 24 || len(ids) != count || len(lasts) != count {
		return false
	}
	for _, h := range p.Far {
		if !sizedAsSaid(p, h) || h.At != 0 {
			return false
		}
	}
	byAt := func(a, b impl.Hold) int { return cmp.Compare(a.At, b.At) }
	byId := func(a, b impl.Hold) int { return cmp.Compare(a.Id, b.Id) }
	return slices.IsSortedFunc(p.Near, byAt) && slices.IsSortedFunc(p.Far, byId)
}

// freeAt: for each byte of a good pool how many are free from it on.
func freeAt(p impl.Pool) []int {
	bytes, _ := bytesOf(p)
	free := make([]int, len(bytes)+1)
	for at := len(bytes) - 1; at >= 0; at-- {
		if bytes[at] == 0 {
			free[at] = free[at+1] + 1
		}
	}
	return free
}

func wantFit(p impl.Pool, size, align int) int {
	if !wantGoodPool(p) || size < 1 || size > p.Room || !slices.Contains(wantedAligns(), align) {
		return -1
	}
	for at, n := range freeAt(p) {
		if at%align == 0 && n >= size {
			return at
		}
	}
	return -1
}

func wantFree(p impl.Pool) ([][]int, bool) {
	if !wantGoodPool(p) {
		return nil, false
	}
	var free [][]int
	ahead := 0
	for at, n := range freeAt(p) {
		if n > 0 && ahead == 0 {
			free = append(free, []int{at, n})
		}
		ahead = n
	}
	return free, true
}

func wantPackedPool(p impl.Pool) (impl.Pool, bool) {
	if !wantGoodPool(p) {
		return impl.Pool{}, false
	}
	packed := impl.Pool{Room: p.Room, Clock: p.Clock, Far: slices.Clone(p.Far)}
	at := 0
	for _, h := range p.Near {
		for at%h.Align != 0 {
			at++
		}
		packed.Near = append(packed.Near, impl.Hold{Id: h.Id, At: at, Size: h.Size, Align: h.Align, Last: h.Last})
		at += h.Size
	}
	return packed, true
}

// store: a pool by its Ids; near ones are in the set.
type store struct {
	room  int
	clock int
	holds map[int]impl.Hold
	near  map[int]bool
}

func storeOf(p impl.Pool) *store {
	s := &store{room: p.Room, clock: p.Clock, holds: map[int]impl.Hold{}, near: map[int]bool{}}
	for _, h := range p.Near {
		s.holds[h.Id], s.near[h.Id] = h, true
	}
	for _, h := range p.Far {
		s.holds[h.Id] = h
	}
	return s
}

func (s *store) pool() impl.Pool {
	p := impl.Pool{Room: s.room, Clock: s.clock}
	for _, id := range slices.Sorted(maps.Keys(s.holds)) {
		if s.near[id] {
			p.Near = append(p.Near, s.holds[id])
		} else {
			p.Far = append(p.Far, s.holds[id])
		}
	}
	slices.SortFunc(p.Near, func(a, b impl.Hold) int { return cmp.Compare(a.At, b.At) })
	return p
}

// nearByUse: the Ids of the near holds, the one that was used longest ago first.
func (s *store) nearByUse() []int {
	return slices.SortedFunc(maps.Keys(s.near), func(a, b int) int { return cmp.Compare(s.holds[a].Last, s.holds[b].Last) })
}

// bring: a hold becomes near; the Ids that go for it. So many as are needed go: none,
// the first one by its use, the first two, and so on.
func (s *store) bring(h impl.Hold) []int {
	all := s.nearByUse()
	for count := 0; ; count++ {
		left := s.pool()
		left.Far = nil
		left.Near = slices.DeleteFunc(left.Near, func(h impl.Hold) bool { return slices.Contains(all[:count], h.Id) })
		at := wantFit(left, h.Size, h.Align)
		if at < 0 {
			continue
		}
		for _, id := range all[:count] {
			gone := s.holds[id]
			gone.At = 0
			s.holds[id] = gone
			delete(s.near, id)
		}
		h.At, h.Last = at, s.clock
		s.holds[h.Id], s.near[h.Id] = h, true
		return slices.Clone(all[:count])
	}
}

func isKind(kind int) bool { return kind == 1 || kind == 2 || kind == 3 }

// opFaults: whether an op of a good pool is not as said.
func opFaults(p impl.Pool, op impl.PoolOp) bool {
	if !isKind(op.Kind) || op.Id < 0 || op.Id > 999 || p.Clock == 100000 {
		return true
	}
	if op.Kind == 1 {
		return op.Size < 1 || op.Size > p.Room || !slices.Contains(wantedAligns(), op.Align)
	}
	return op.Size != 0 || op.Align != 0
}

func wantDo(p impl.Pool, op impl.PoolOp) (impl.Pool, int, []int) {
	if !wantGoodPool(p) {
		return impl.Pool{}, 1, nil
	}
	if opFaults(p, op) {
		return p, 1, nil
	}
	s := storeOf(p)
	h, there := s.holds[op.Id]
	if op.Kind == 1 && (there || len(s.holds) == 24) {
		return p, 2, nil
	}
	if op.Kind != 1 && !there {
		return p, 3, nil
	}
	var out []int
	switch {
	case op.Kind == 2:
		delete(s.holds, op.Id)
		delete(s.near, op.Id)
	case s.near[op.Id]:
		s.clock++
		h.Last = s.clock
		s.holds[op.Id] = h
	default:
		s.clock++
		if op.Kind == 1 {
			h = impl.Hold{Id: op.Id, Size: op.Size, Align: op.Align}
		}
		out = s.bring(h)
	}
	return s.pool(), 0, out
}

func wantRun(room int, ops []impl.PoolOp) (impl.Pool, []int, bool) {
	if !wantRoom(room) || len(ops) > 80 {
		return impl.Pool{}, nil, false
	}
	p := impl.Pool{Room: room}
	var codes []int
	for _, op := range ops {
		then, code, _ := wantDo(p, op)
		p, codes = then, append(codes, code)
	}
	return p, codes, true
}

// inCommon: how many numbers two stretches have in common, each its first and its last.
func inCommon(a, b [2]int) int { return max(0, min(a[1], b[1])-max(a[0], b[0])+1) }

func wantThings(sizes []int, spans [][]int) bool {
	if len(sizes) > 24 || len(sizes) != len(spans) {
		return false
	}
	for at, size := range sizes {
		if !wantRoom(size) || len(spans[at]) != 2 || !slices.IsSorted([]int{0, spans[at][0], spans[at][1], 1000}) {
			return false
		}
	}
	return true
}

// wantShared: all places of a thing tried upwards, against all things with a place.
func wantShared(sizes []int, spans [][]int) ([]int, int, bool) {
	if !wantThings(sizes, spans) {
		return nil, 0, false
	}
	places, end := make([]int, len(sizes)), 0
	placed := map[int]bool{}
	for len(placed) < len(sizes) {
		next := -1
		for thing, size := range sizes {
			if !placed[thing] && (next < 0 || size > sizes[next]) {
				next = thing
			}
		}
		for clashes(sizes, spans, places, placed, next) {
			places[next]++
		}
		placed[next] = true
		end = max(end, places[next]+sizes[next])
	}
	return places, end, true
}

// clashes: whether a thing where it is shares a byte with one that has a place, while
// both are there.
func clashes(sizes []int, spans [][]int, places []int, placed map[int]bool, thing int) bool {
	for other := range placed {
		bytes := inCommon([2]int{places[thing], places[thing] + sizes[thing] - 1}, [2]int{places[other], places[other] + sizes[other] - 1})
		if bytes > 0 && inCommon([2]int(spans[thing]), [2]int(spans[other])) > 0 {
			return true
		}
	}
	return false
}
