package tests

import (
	"cmp"
	"slices"
	"testing"

	"loop.example/g00053/impl"
)

// Each heldX: a function answers, at any arguments, as it is worked out another way;
// what that is.

func samePools(a, b impl.Pool) bool {
	return a.Room == b.Room && a.Clock == b.Clock && slices.Equal(a.Near, b.Near) && slices.Equal(a.Far, b.Far)
}

func briefPool(p impl.Pool) impl.Pool {
	return impl.Pool{Room: p.Room, Near: briefly(p.Near), Far: briefly(p.Far), Clock: p.Clock}
}

func heldNewPool(t *testing.T, room int) bool {
	t.Helper()
	want := wantRoom(room)
	got, ok := impl.NewPool(room)
	if ok != want || want && !samePools(got, impl.Pool{Room: room}) || !want && !samePools(got, impl.Pool{}) {
		t.Errorf("NewPool(%d) = %v, %v", room, got, ok)
	}
	return want
}

func heldGoodPool(t *testing.T, p impl.Pool) bool {
	t.Helper()
	want := wantGoodPool(p)
	if got := impl.GoodPool(p); got != want {
		t.Errorf("GoodPool(%v) = %v", briefPool(p), got)
	}
	return want
}

func heldFit(t *testing.T, p impl.Pool, size, align int) int {
	t.Helper()
	want := wantFit(p, size, align)
	if got := impl.FirstFit(p, size, align); got != want {
		t.Errorf("FirstFit(%v, %d, %d) = %d, want %d", briefPool(p), size, align, got, want)
	}
	return want
}

func heldFree(t *testing.T, p impl.Pool) [][]int {
	t.Helper()
	want, ok := wantFree(p)
	if got, is := impl.FreeOf(p); is != ok || !slices.EqualFunc(got, want, slices.Equal) {
		t.Errorf("FreeOf(%v) = %v, %v, want %v, %v", briefPool(p), got, is, want, ok)
	}
	return want
}

func heldPackedPool(t *testing.T, p impl.Pool) bool {
	t.Helper()
	want, ok := wantPackedPool(p)
	if got, is := impl.Packed(p); is != ok || !samePools(got, want) {
		t.Errorf("Packed(%v) = %v, %v, want %v, %v", briefPool(p), got, is, want, ok)
	}
	return ok && !samePools(p, want)
}

func heldDo(t *testing.T, p impl.Pool, op impl.PoolOp) (int, []int) {
	t.Helper()
	want, code, out := wantDo(p, op)
	got, is, gone := impl.PoolDo(p, op)
	if is != code || !slices.Equal(gone, out) || !samePools(got, want) {
		t.Errorf("PoolDo(%v, %v) = %v, %d, %v, want %v, %d, %v", briefPool(p), op, got, is, gone, want, code, out)
	}
	return code, out
}

func heldPoolRun(t *testing.T, room int, ops []impl.PoolOp) (impl.Pool, []int, bool) {
	t.Helper()
	want, codes, ok := wantRun(room, ops)
	got, told, is := impl.PoolRun(room, ops)
	if is != ok || !slices.Equal(told, codes) || !samePools(got, want) {
		t.Errorf("PoolRun(%d, %v) = %v, %v, %v, want %v, %v, %v", room, briefly(ops), got, told, is, want, codes, ok)
	}
	return want, codes, ok
}

func heldShare(t *testing.T, sizes []int, spans [][]int) bool {
	t.Helper()
	want, end, ok := wantShared(sizes, spans)
	got, all, is := impl.ShareRoom(sizes, spans)
	if is != ok || all != end || !slices.Equal(got, want) {
		t.Errorf("ShareRoom(%v, %v) = %v, %d, %v, want %v, %d, %v", briefly(sizes), briefly(spans), got, all, is, want, end, ok)
	}
	return ok
}

// smallAlign: most often a small one.
func (c chance) smallAlign() int { return c.oneOf(1, 1, 1, 2, 2, 4, 4, 8, 16, 64, 256) }

// somePool: a good one, its near holds laid down from the left with gaps between, its
// Lasts without an order.
func (c chance) somePool() impl.Pool {
	p := impl.Pool{Room: c.oneOf(1, 2, 7, 16, 40, 64, 64, 100, 256, 1000, 4096)}
	p.Clock = c.oneOf(24, 25, 26, 30, 30, 60, 60, 99998, 99999, 100000)
	ids, lasts := c.Perm(c.oneOf(24, 25, 40, 1000)), c.Perm(min(p.Clock, 60))
	hold := func() impl.Hold {
		h := impl.Hold{Id: ids[0], Size: 1 + c.Intn(min(p.Room, c.oneOf(1, 4, 16, 64, 4096))), Align: c.smallAlign(), Last: p.Clock - lasts[0]}
		ids, lasts = ids[1:], lasts[1:]
		return h
	}
	near, far, end := c.Intn(13), c.Intn(12), 0
	for len(p.Near) < near {
		h := hold()
		h.At = (end + c.oneOf(0, 0, 0, 1, 2, 5, 30) + h.Align - 1) / h.Align * h.Align
		if end = h.At + h.Size; end > p.Room {
			break
		}
		p.Near = append(p.Near, h)
	}
	for len(p.Far) < far {
		p.Far = append(p.Far, hold())
	}
	slices.SortFunc(p.Far, func(a, b impl.Hold) int { return cmp.Compare(a.Id, b.Id) })
	return p
}

func copiedPool(p impl.Pool) impl.Pool {
	p.Near, p.Far = slices.Clone(p.Near), slices.Clone(p.Far)
	return p
}

// changedPool: with one thing changed, which most often is not good then.
func (c chance) changedPool(p impl.Pool) impl.Pool {
	p = copiedPool(p)
	row := p.Near
	if c.Intn(2) == 0 {
		row = p.Far
	}
	if len(row) == 0 || c.Intn(6) == 0 {
		*[]*int{&p.Room, &p.Clock}[c.Intn(2)] = c.anyNumber(0, 1, 20, 4096, 4097, 100000, 100001)
		return p
	}
	h, other := &row[c.Intn(len(row))], row[c.Intn(len(row))]
	switch c.Intn(9) {
	case 0:
		h.Id = c.anyNumber(0, 1, 5, 999, 1000, other.Id)
	case 1:
		h.At = c.anyNumber(0, 1, h.At+h.Align, h.At-h.Align, h.At+1, p.Room-h.Size, p.Room-h.Size+1)
	case 2:
		h.Size = c.anyNumber(0, 1, h.Size+1, h.Size+2, p.Room-h.At, p.Room-h.At+1, p.Room, p.Room+1)
	case 3:
		h.Align = c.anyNumber(0, 1, 2, 3, 128, 256, 512)
	case 4:
		h.Last = c.anyNumber(0, 1, p.Clock, p.Clock+1, other.Last)
	case 5:
		p.Clock = h.Last - c.Intn(2)
	case 6:
		*h = other
	case 7:
		at := c.Intn(len(row))
		row[at], *h = *h, row[at]
	case 8:
		p.Room = h.At + h.Size - c.Intn(2)
	}
	return p
}

// someOp: most often a good one, of few Ids.
func (c chance) someOp(p impl.Pool, ids int) impl.PoolOp {
	op := impl.PoolOp{Kind: c.oneOf(1, 1, 1, 2, 3, 3, 3), Id: c.Intn(ids)}
	if holds := slices.Concat(p.Near, p.Far); len(holds) > 0 && c.Intn(3) > 0 {
		op.Id = holds[c.Intn(len(holds))].Id
	}
	if op.Kind == 1 {
		op.Size, op.Align = 1+c.Intn(min(max(p.Room, 1), c.oneOf(8, 30, 100, 4096, 4096))), c.smallAlign()
		op.Id = c.oneOf(op.Id, c.Intn(ids), c.Intn(1000))
	}
	return op
}

// changedOp: with one field changed.
func (c chance) changedOp(p impl.Pool, op impl.PoolOp) impl.PoolOp {
	*[]*int{&op.Kind, &op.Id, &op.Size, &op.Align}[c.Intn(4)] = c.anyNumber(0, 1, 3, 4, 256, 512, 999, 1000, p.Room, p.Room+1)
	return op
}

// someOps: for a room in which there is place for some of few holds.
func (c chance) someOps(room, count int) []impl.PoolOp {
	ids := c.oneOf(2, 4, 8, 30)
	var ops []impl.PoolOp
	for len(ops) < count {
		op := c.someOp(impl.Pool{Room: room}, ids)
		if op.Id >= ids {
			op.Id = c.Intn(ids)
		}
		if c.Intn(25) == 0 {
			op = c.changedOp(impl.Pool{Room: room}, op)
		}
		ops = append(ops, op)
	}
	return ops
}

// someThings: sizes and spans, some alike.
func (c chance) someThings(count, greatest, moments int) ([]int, [][]int) {
	var sizes []int
	var spans [][]int
	for range count {
		first := c.Intn(moments)
		last := min(first+c.Intn(c.oneOf(1, 2, 4, moments)), moments-1)
		sizes = append(sizes, 1+c.Intn(greatest))
		spans = append(spans, []int{first, last})
	}
	return sizes, spans
}

func TestPoolsOfRoom(t *testing.T) {
	t.Parallel()
	for room := -10; room <= 4200; room++ {
		if heldNewPool(t, room) {
			p, _ := impl.NewPool(room)
			heldGoodPool(t, p)
		}
	}
}

func TestPoolsByBytes(t *testing.T) {
	t.Parallel()
	c := newChance(391)
	good := 0
	for range 20000 {
		p := c.somePool()
		if !heldGoodPool(t, p) {
			t.Fatalf("%v is not good", p)
		}
		if heldGoodPool(t, c.changedPool(p)) {
			good++
		}
	}
	if good < 2000 || good > 10000 {
		t.Errorf("%d of 20000 are good", good)
	}
}

func TestFirstFitsByBytes(t *testing.T) {
	t.Parallel()
	c := newChance(392)
	fits, others := 0, 0
	for range 6000 {
		p := c.somePool()
		for range 4 {
			size := 1 + c.Intn(min(p.Room, c.oneOf(4, 16, 4096)))
			if heldFit(t, p, size, c.smallAlign()) >= 0 {
				fits++
			} else {
				others++
			}
		}
		for _, size := range []int{0, p.Room, p.Room + 1} {
			heldFit(t, p, size, c.oneOf(1, 0, 3))
		}
		heldFit(t, c.changedPool(p), 1, 1)
	}
	if fits < 6000 || others < 3000 {
		t.Errorf("%d fit, %d do not", fits, others)
	}
}

func TestFreeAndPackedByBytes(t *testing.T) {
	t.Parallel()
	c := newChance(393)
	var counts [8]int
	packed := 0
	for range 3000 {
		p := c.somePool()
		counts[min(len(heldFree(t, p)), 7)]++
		if heldPackedPool(t, p) {
			packed++
		}
		p = c.changedPool(p)
		heldFree(t, p)
		heldPackedPool(t, p)
	}
	if slices.Min(counts[:]) < 20 || packed < 1000 {
		t.Errorf("%v have so many free stretches, %d are packed", counts, packed)
	}
}

func TestOpsByBytes(t *testing.T) {
	t.Parallel()
	c := newChance(394)
	var codes [4]int
	var outs [5]int
	for n := range 12000 {
		p := c.somePool()
		op := c.someOp(p, 40)
		if n%5 == 0 {
			op = c.changedOp(p, op)
		}
		if n%7 == 0 {
			p = c.changedPool(p)
		}
		code, out := heldDo(t, p, op)
		codes[code]++
		outs[min(len(out), 4)]++
	}
	if slices.Min(codes[:]) < 500 || slices.Min(outs[:]) < 60 {
		t.Errorf("codes %v, so many put out %v", codes, outs)
	}
}

func TestRunsByBytes(t *testing.T) {
	t.Parallel()
	c := newChance(395)
	var codes [4]int
	far := 0
	for range 1500 {
		room := c.oneOf(1, 5, 16, 40, 64, 100, 300)
		p, told, _ := heldPoolRun(t, room, c.someOps(room, c.oneOf(0, 1, 5, 20, 79, 80, 81)))
		for _, code := range told {
			codes[code]++
		}
		far += len(p.Far)
	}
	if slices.Min(codes[:]) < 1000 || far < 1500 {
		t.Errorf("codes %v, %d are far", codes, far)
	}
}

func TestThingsByPlaces(t *testing.T) {
	t.Parallel()
	c := newChance(396)
	for n := range 3000 {
		sizes, spans := c.someThings(n%26, c.oneOf(1, 3, 20, 60), c.oneOf(1, 2, 5, 20, 100, 1001))
		heldShare(t, sizes, spans)
	}
	for range 10 {
		sizes, spans := c.someThings(24, 1000, 4)
		heldShare(t, sizes, spans)
	}
}
