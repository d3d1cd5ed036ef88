package tests

import (
	"math"
	"slices"
	"testing"

	"loop.example/g00053/impl"
)

// holdOf: the one with an Id, whether it is there, and whether it is near.
func holdOf(p impl.Pool, id int) (h impl.Hold, there, near bool) {
	for _, h := range p.Near {
		if h.Id == id {
			return h, true, true
		}
	}
	for _, h := range p.Far {
		if h.Id == id {
			return h, true, false
		}
	}
	return impl.Hold{}, false, false
}

// noByteTwice: no two near holds of a pool share a byte, each lies where it may.
func noByteTwice(t *testing.T, p impl.Pool) {
	t.Helper()
	owners := map[int]int{}
	for _, h := range p.Near {
		if h.At%h.Align != 0 || h.At < 0 || h.At+h.Size > p.Room {
			t.Errorf("%v lies where it may not, in %v", h, p)
		}
		for at := h.At; at < h.At+h.Size; at++ {
			if other, twice := owners[at]; twice {
				t.Errorf("byte %d is that of %d and of %d in %v", at, other, h.Id, p)
			}
			owners[at] = h.Id
		}
	}
	if !impl.GoodPool(p) {
		t.Errorf("%v is not good", p)
	}
}

// asBefore: all holds of a pool but one are there as they were, those that were put out
// far with their Lasts.
func asBefore(t *testing.T, p, then impl.Pool, out []int, id int) {
	t.Helper()
	for _, h := range slices.Concat(p.Near, p.Far) {
		_, _, near := holdOf(p, h.Id)
		got, there, is := holdOf(then, h.Id)
		if slices.Contains(out, h.Id) {
			h.At, near = 0, false
		}
		if h.Id != id && (!there || got != h || is != near) {
			t.Errorf("%v has become %v (%v, near: %v)", h, got, there, is)
		}
	}
	for _, gone := range out {
		if _, _, near := holdOf(p, gone); !near || gone == id {
			t.Errorf("%d is put out of %v", gone, p)
		}
	}
}

// leastUsed: those that were put out are the ones that were used longest ago, and as few
// as can be for a hold.
func leastUsed(t *testing.T, p impl.Pool, out []int, h impl.Hold) {
	t.Helper()
	left := impl.Pool{Room: p.Room, Clock: p.Clock, Near: slices.Clone(p.Near)}
	for _, id := range out {
		if at := impl.FirstFit(left, h.Size, h.Align); at >= 0 {
			t.Errorf("%d is put out of %v, though %v fits at %d", id, left, h, at)
		}
		gone, _, _ := holdOf(left, id)
		for _, other := range left.Near {
			if other.Last < gone.Last {
				t.Errorf("%v is put out ahead of %v", gone, other)
			}
		}
		left.Near = slices.DeleteFunc(left.Near, func(other impl.Hold) bool { return other.Id == id })
	}
	if at := impl.FirstFit(left, h.Size, h.Align); at != h.At {
		t.Errorf("%v is put in, but %d is its first fit in %v", h, at, left)
	}
}

// opDone: what an op without a code leaves of a pool.
func opDone(t *testing.T, p impl.Pool, op impl.PoolOp, then impl.Pool, out []int) {
	t.Helper()
	asBefore(t, p, then, out, op.Id)
	h, there, near := holdOf(then, op.Id)
	was, _, wasNear := holdOf(p, op.Id)
	switch {
	case op.Kind == impl.PoolGive:
		if there || then.Clock != p.Clock || len(out) > 0 || len(then.Near)+len(then.Far) != len(p.Near)+len(p.Far)-1 {
			t.Errorf("%v of %v leaves %v, %v", op, p, then, out)
		}
		return
	case op.Kind == impl.PoolTake:
		was = impl.Hold{Id: op.Id, Size: op.Size, Align: op.Align}
		leastUsed(t, p, out, h)
	case wasNear && (len(out) > 0 || h.At != was.At):
		t.Errorf("%v of %v leaves %v, %v", op, p, then, out)
	case !wasNear:
		leastUsed(t, p, out, h)
	}
	if !near || h.Size != was.Size || h.Align != was.Align || h.Last != then.Clock || then.Clock != p.Clock+1 {
		t.Errorf("%v of %v leaves %v", op, p, then)
	}
}

// Promise 20: behind drawn ops the pool is good, no two holds share a byte, and each
// hold of no code is where it may be.
func TestPromise20NoTwoHoldsShareAByte(t *testing.T) {
	t.Parallel()
	c := newChance(401)
	var codes, kinds [4]int
	outs := 0
	for range 600 {
		room := c.oneOf(1, 5, 16, 40, 64, 100, 300)
		ops := c.someOps(room, 80)
		p, _ := impl.NewPool(room)
		var told []int
		for _, op := range ops {
			then, code, out := impl.PoolDo(p, op)
			noByteTwice(t, then)
			if code != 0 && (!samePools(then, p) || len(out) > 0) {
				t.Errorf("%v of %v has the code %d and leaves %v, %v", op, p, code, then, out)
			}
			if code == 0 {
				opDone(t, p, op, then, out)
				kinds[op.Kind]++
			}
			codes[code]++
			outs += len(out)
			told = append(told, code)
			p = then
		}
		if all, codes, ok := impl.PoolRun(room, ops); !ok || !samePools(all, p) || !slices.Equal(codes, told) {
			t.Errorf("PoolRun(%d, %v) = %v, %v, one by one %v, %v", room, ops, all, codes, p, told)
		}
	}
	if slices.Min(codes[:]) < 700 || slices.Min(kinds[1:]) < 1000 || outs < 3000 {
		t.Errorf("codes %v, kinds %v, %d put out", codes, kinds, outs)
	}
}

// Promise 20: drawn pools, too, are good behind an op, and as many holds are there.
func TestPromise20DrawnPools(t *testing.T) {
	t.Parallel()
	c := newChance(402)
	taken, used := 0, 0
	for range 8000 {
		p := c.somePool()
		op := c.someOp(p, 40)
		then, code, out := impl.PoolDo(p, op)
		noByteTwice(t, then)
		if code != 0 {
			continue
		}
		opDone(t, p, op, then, out)
		switch {
		case op.Kind == impl.PoolTake:
			taken++
		case op.Kind == impl.PoolUse && len(out) > 0:
			used++
		}
	}
	if taken < 1000 || used < 200 {
		t.Errorf("%d are taken, %d are used for others", taken, used)
	}
}

// Promise 20: of a packed pool, too, no two holds share a byte; none can go further.
func TestPromise20PackedPoolsShareNone(t *testing.T) {
	t.Parallel()
	c := newChance(403)
	for range 4000 {
		p := c.somePool()
		packed, ok := impl.Packed(p)
		noByteTwice(t, packed)
		if !ok || packed.Room != p.Room || packed.Clock != p.Clock || !slices.Equal(packed.Far, p.Far) || len(packed.Near) != len(p.Near) {
			t.Fatalf("Packed(%v) = %v, %v", p, packed, ok)
		}
		end := 0
		for n, h := range packed.Near {
			was := p.Near[n]
			if h.At > was.At || h.At-end >= h.Align {
				t.Errorf("Packed(%v) = %v: %v", p, packed, h)
			}
			was.At, end = h.At, h.At+h.Size
			if h != was {
				t.Errorf("Packed(%v) = %v: %v", p, packed, h)
			}
		}
	}
}

// Promise 20: each byte is that of one hold, or of one free stretch; where something
// fits it can be.
func TestPromise20FreeBytesAreTheOthers(t *testing.T) {
	t.Parallel()
	c := newChance(404)
	for range 4000 {
		p := c.somePool()
		free, ok := impl.FreeOf(p)
		ends, bytes := []int{}, 0
		for _, h := range p.Near {
			bytes += h.Size
		}
		filled := copiedPool(p)
		filled.Near, filled.Far, filled.Clock = nil, nil, 100000
		for n, s := range free {
			bytes += s[1]
			ends = append(ends, s[0], s[0]+s[1])
			filled.Near = append(filled.Near, impl.Hold{Id: 500 + n, At: s[0], Size: s[1], Align: 1, Last: 50000 + n})
			if at := impl.FirstFit(p, s[1], 1); at < 0 || at > s[0] {
				t.Errorf("%d bytes fit at %d in %v", s[1], at, p)
			}
		}
		if !ok || bytes != p.Room || !slices.IsSorted(ends) || len(slices.Compact(slices.Clone(ends))) != 2*len(free) {
			t.Errorf("FreeOf(%v) = %v, %v", p, free, ok)
		}
		noByteTwice(t, filled)
	}
}

// longestOf: the bytes that are there at one time at most, by a list of moments.
func longestOf(sizes []int, spans [][]int) int {
	var at [1001]int
	for thing, span := range spans {
		for moment := span[0]; moment <= span[1]; moment++ {
			at[moment] += sizes[thing]
		}
	}
	return slices.Max(at[:])
}

// Promise 20: no two things that are there at one time share a byte; the room is no less
// than what is there at any time, and no more than all of them together.
func TestPromise20ThingsShareNoByte(t *testing.T) {
	t.Parallel()
	c := newChance(405)
	less, all := 0, 0
	for n := range 3000 {
		sizes, spans := c.someThings(n%25, c.oneOf(1, 5, 20, 40), c.oneOf(1, 3, 8, 20))
		places, end, ok := impl.ShareRoom(sizes, spans)
		sum, greatest := 0, 0
		taken := map[[2]int]int{}
		for thing, place := range places {
			sum += sizes[thing]
			greatest = max(greatest, place+sizes[thing])
			for at := place; at < place+sizes[thing]; at++ {
				for moment := spans[thing][0]; moment <= spans[thing][1]; moment++ {
					taken[[2]int{at, moment}]++
				}
			}
		}
		for spot, count := range taken {
			if count > 1 || spot[0] < 0 {
				t.Fatalf("ShareRoom(%v, %v) = %v: byte %d at %d", sizes, spans, places, spot[0], spot[1])
			}
		}
		if !ok || len(places) != len(sizes) || end != greatest || end > sum || end < longestOf(sizes, spans) {
			t.Errorf("ShareRoom(%v, %v) = %v, %d, %v", sizes, spans, places, end, ok)
		}
		if end < sum {
			less++
		} else {
			all++
		}
	}
	if less < 1500 || all < 500 {
		t.Errorf("%d need less than all together, %d do not", less, all)
	}
}

// anyHold: of any numbers.
func (c chance) anyHold() impl.Hold {
	return impl.Hold{Id: c.anyNumber(1, 500), At: c.anyNumber(0, 8), Size: c.anyNumber(1, 8), Align: c.anyNumber(1, 8), Last: c.anyNumber(1, 2)}
}

// anyPool: good ones, ones with something changed, or with holds of any kind.
func (c chance) anyPool() impl.Pool {
	p := c.somePool()
	switch c.Intn(6) {
	case 0:
		p = c.changedPool(p)
	case 1:
		p = c.changedPool(c.changedPool(p))
	case 2:
		p.Near = append(p.Near, c.anyHold())
	case 3:
		p.Far = append([]impl.Hold{c.anyHold()}, p.Far...)
	}
	return p
}

// anyThings: sometimes too many, or with one number changed.
func (c chance) anyThings() ([]int, [][]int) {
	sizes, spans := c.someThings(c.oneOf(0, 1, 2, 5, 24, 25), c.oneOf(1, 30), c.oneOf(1, 5, 1001))
	if len(sizes) > 0 && c.Intn(2) == 0 {
		switch at := c.Intn(len(sizes)); c.Intn(4) {
		case 0:
			sizes[at] = c.anyNumber(0, 1, 4096, 4097)
		case 1:
			spans[at][c.Intn(2)] = c.anyNumber(0, 1, 1000, 1001)
		case 2:
			spans[at] = [][]int{nil, {}, {1}, {1, 2, 3}}[c.Intn(4)]
		case 3:
			spans = append(spans[:at:at], spans[at+1:]...)
		}
	}
	return sizes, spans
}

// Promise 25: pools, ops and things of any kind.
func TestPromise25AnyPools(t *testing.T) {
	t.Parallel()
	c := newChance(406)
	var good [6]int
	for n := range 6000 {
		p := c.anyPool()
		op := c.someOp(p, 40)
		if n%3 == 0 {
			op = c.changedOp(p, op)
		}
		code, _ := heldDo(t, p, op)
		at := heldFit(t, p, c.anyNumber(1, 2, 5), c.anyNumber(1, 2, 4))
		room := c.anyNumber(1, 5, 64, 4096, 4097)
		_, _, ran := heldPoolRun(t, room, c.someOps(room%500, c.oneOf(0, 1, 3, 10, 81)))
		sizes, spans := c.anyThings()
		heldFree(t, p)
		heldPackedPool(t, p)
		for number, ok := range []bool{heldNewPool(t, room), heldGoodPool(t, p), code == 0, at >= 0, ran, heldShare(t, sizes, spans)} {
			if ok {
				good[number]++
			}
		}
	}
	for number, n := range good {
		if n < 600 || n > 5400 {
			t.Errorf("function %d: %d of 6000 are as said", number, n)
		}
	}
}

// Promise 25: the least and the greatest numbers everywhere.
func TestPromise25NumbersOfPools(t *testing.T) {
	t.Parallel()
	ends := []int{math.MinInt, math.MinInt + 1, -1, 0, 1, 4096, math.MaxInt - 1, math.MaxInt}
	for n := range 8 * 8 * 8 * 8 {
		a, b, d, e := ends[n%8], ends[n/8%8], ends[n/64%8], ends[n/512]
		for _, h := range []impl.Hold{{Id: a, At: b, Size: d, Align: e, Last: 1}, {Id: 1, At: a, Size: b, Align: d, Last: e}, {Id: 1, At: a, Size: b, Align: 1, Last: 1}} {
			for _, p := range []impl.Pool{{Room: 4096, Clock: 1, Near: []impl.Hold{h}}, {Room: 4096, Clock: 1, Far: []impl.Hold{h}}, {Room: a, Clock: e, Near: []impl.Hold{h}}} {
				if heldGoodPool(t, p) || n%7 == 0 {
					heldFree(t, p)
					heldPackedPool(t, p)
					heldFit(t, p, 1, 1)
					heldDo(t, p, impl.PoolOp{Kind: impl.PoolTake, Id: 9, Size: 1, Align: 1})
				}
			}
		}
		if n < 512 {
			heldFit(t, impl.Pool{Room: 4096}, a, b)
			heldFit(t, impl.Pool{Room: a, Clock: b}, 1, d)
			heldShare(t, []int{a, b}, [][]int{{0, d}, {d, 1000}})
		}
		for _, op := range []impl.PoolOp{{Kind: a, Id: b, Size: d, Align: e}, {Kind: 1 + n%3, Id: b, Size: d, Align: e}} {
			heldDo(t, impl.Pool{Room: 4096}, op)
			heldPoolRun(t, 7, []impl.PoolOp{op})
		}
	}
}

// poolWithMore: with as much again behind its lists.
func poolWithMore(p impl.Pool) impl.Pool {
	p.Near, p.Far = behind(p.Near), behind(p.Far)
	return p
}

// isThePool: whether a pool is as it was, with what lies behind its lists.
func isThePool(p, was impl.Pool) bool {
	return p.Room == was.Room && p.Clock == was.Clock && unchanged(p.Near, was.Near) && unchanged(p.Far, was.Far)
}

// Promise 25: nothing is written into pools, ops and things, and no answer hangs on what
// lies behind them.
func TestPromise25PoolsStay(t *testing.T) {
	t.Parallel()
	c := newChance(407)
	for range 3000 {
		was := c.anyPool()
		p := poolWithMore(was)
		heldGoodPool(t, p)
		heldFit(t, p, 1+c.Intn(9), c.smallAlign())
		heldFree(t, p)
		heldPackedPool(t, p)
		for range 4 {
			heldDo(t, p, c.someOp(p, 40))
		}
		if !isThePool(p, was) {
			t.Errorf("%v has become %v", was, p)
		}
		ops := c.someOps(64, c.Intn(20))
		given := behind(ops)
		heldPoolRun(t, 64, given)
		if !unchanged(given, ops) {
			t.Errorf("%v has become %v", ops, given)
		}
		sizes, spans := c.anyThings()
		bytes, rows := behind(sizes), [][]int{}
		for _, span := range append(slices.Clone(spans), spans...) {
			rows = append(rows, behind(span))
		}
		heldShare(t, bytes, rows[:len(spans)])
		if !unchanged(bytes, sizes) || !slices.EqualFunc(rows, append(slices.Clone(spans), spans...), unchanged[int]) {
			t.Errorf("%v, %v have become %v, %v", sizes, spans, bytes, rows)
		}
	}
}

// spoil: all that lies in a list's memory is written over, and one is put behind it.
func spoil(l []impl.Hold, id int) []impl.Hold {
	for n := range l[:cap(l)] {
		l[:cap(l)][n] = impl.Hold{Id: id}
	}
	return append(l, impl.Hold{Id: id})
}

// poolApart: a pool that is answered is new memory, and its two lists share none.
func poolApart(t *testing.T, what string, was impl.Pool, call func(impl.Pool) impl.Pool) {
	t.Helper()
	given := poolWithMore(was)
	first, second := call(given), call(given)
	kept := copiedPool(first)
	near := spoil(first.Near, -100)
	far := spoil(first.Far, -200)
	if slices.ContainsFunc(near, func(h impl.Hold) bool { return h.Id != -100 }) || slices.ContainsFunc(far, func(h impl.Hold) bool { return h.Id != -200 }) {
		t.Errorf("%s: the lists of an answer share their memory", what)
	}
	if !isThePool(given, was) || !samePools(second, kept) {
		t.Errorf("%s of %v: the answer shares its memory", what, was)
	}
	clear(given.Near[:cap(given.Near)])
	clear(given.Far[:cap(given.Far)])
	if !samePools(second, kept) {
		t.Errorf("%s of %v: the answer has the memory of what was given", what, was)
	}
}

// Promise 25: what is answered is new memory.
func TestPromise25PoolsAreNewMemory(t *testing.T) {
	t.Parallel()
	c := newChance(408)
	for range 3000 {
		was := c.anyPool()
		poolApart(t, "Packed", was, func(p impl.Pool) impl.Pool {
			packed, _ := impl.Packed(p)
			return packed
		})
		for _, op := range []impl.PoolOp{c.someOp(was, 40), c.someOp(was, 40), {}} {
			poolApart(t, "PoolDo", was, func(p impl.Pool) impl.Pool {
				then, _, _ := impl.PoolDo(p, op)
				return then
			})
			_, _, first := impl.PoolDo(was, op)
			_, _, second := impl.PoolDo(was, op)
			kept := slices.Clone(second)
			listsApart(t, "PoolDo", first)
			if !slices.Equal(second, kept) {
				t.Errorf("PoolDo(%v, %v) tells the same memory twice", was, op)
			}
		}
		first, _ := impl.FreeOf(was)
		second, _ := impl.FreeOf(was)
		listsApart(t, "FreeOf", first...)
		if want, _ := wantFree(was); !slices.EqualFunc(second, want, slices.Equal) {
			t.Errorf("FreeOf(%v) has become %v", was, second)
		}
	}
}

func TestPromise25RunsAndPlacesAreNewMemory(t *testing.T) {
	t.Parallel()
	c := newChance(409)
	for range 1500 {
		ops := c.someOps(64, c.Intn(30))
		poolApart(t, "PoolRun", impl.Pool{}, func(impl.Pool) impl.Pool {
			p, _, _ := impl.PoolRun(64, ops)
			return p
		})
		apartFrom(t, "PoolRun", ops, func(ops []impl.PoolOp) []int {
			_, codes, _ := impl.PoolRun(64, ops)
			return codes
		})
		sizes, spans := c.anyThings()
		apartFrom(t, "ShareRoom", sizes, func(sizes []int) []int {
			places, _, _ := impl.ShareRoom(sizes, spans)
			return places
		})
	}
}

// leftBehind: whether something of a hold lies behind a list's length.
func leftBehind(l []impl.Hold) bool {
	return slices.ContainsFunc(l[:cap(l)][len(l):], func(h impl.Hold) bool { return h != impl.Hold{} })
}

// What was put out or given back is cleared: nothing of it is handed out behind a list.
func TestNothingIsLeftOfHoldsThatWent(t *testing.T) {
	t.Parallel()
	c := newChance(410)
	gone, far := 0, 0
	for range 4000 {
		p := c.somePool()
		op := c.someOp(p, 40)
		then, _, out := impl.PoolDo(poolWithMore(p), op)
		run, _, _ := impl.PoolRun(64, c.someOps(64, 20))
		for _, l := range [][]impl.Hold{then.Near, then.Far, run.Near, run.Far} {
			if leftBehind(l) {
				t.Errorf("%v of %v: behind %v lie %v", op, p, l, l[:cap(l)][len(l):])
			}
		}
		gone += len(out)
		far += max(0, len(p.Far)-len(then.Far))
	}
	if gone < 500 || far < 300 {
		t.Errorf("%d are put out, %d are no more far", gone, far)
	}
}
