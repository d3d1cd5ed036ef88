package tests

import (
	"slices"
	"strings"
	"testing"

	"loop.example/g00053/impl"
)

// The edges that chapter 20 names of pools that stand still, with what is answered
// written out.

// holdsFrom: the holds of a row, with `|` between each two: Id, At, Size, Align, Last.
func holdsFrom(text string) []impl.Hold {
	var holds []impl.Hold
	if strings.TrimSpace(text) == "" {
		return nil
	}
	for _, n := range setsOf(text) {
		holds = append(holds, impl.Hold{Id: n[0], At: n[1], Size: n[2], Align: n[3], Last: n[4]})
	}
	return holds
}

func poolFrom(room, clock int, near, far string) impl.Pool {
	return impl.Pool{Room: room, Clock: clock, Near: holdsFrom(near), Far: holdsFrom(far)}
}

// plainPool: a good one with three near holds, and free bytes from 10 on, from 32 on
// and from 64 on; and two far ones.
func plainPool() impl.Pool {
	return poolFrom(70, 9, "11 0 10 1 3 | 5 16 16 16 8 | 7 40 24 8 5", "2 0 30 2 1 | 9 0 70 64 6")
}

// fullPool: no byte is free.
func fullPool() impl.Pool { return poolFrom(32, 3, "1 0 8 8 1 | 2 8 23 4 2 | 3 31 1 1 3", "") }

// manyHolds: a good pool with so many holds of one byte each, near and far.
func manyHolds(near, far int) impl.Pool {
	p := impl.Pool{Room: 64, Clock: near + far}
	for n := range near {
		p.Near = append(p.Near, impl.Hold{Id: 500 - n, At: 2 * n, Size: 1, Align: 1, Last: n + 1})
	}
	for n := range far {
		p.Far = append(p.Far, impl.Hold{Id: 600 + n, Size: 1, Align: 1, Last: near + n + 1})
	}
	return p
}

func TestConstantsOfPools(t *testing.T) {
	t.Parallel()
	got := []int{impl.MaxRoom, impl.MaxHolds, impl.MaxOps, impl.PoolTake, impl.PoolGive, impl.PoolUse, impl.PoolBad, impl.PoolFull, impl.PoolNone}
	if !slices.Equal(got, []int{4096, 24, 80, 1, 2, 3, 1, 2, 3}) {
		t.Errorf("constants %v", got)
	}
}

func TestNewPools(t *testing.T) {
	t.Parallel()
	for _, room := range []int{1, 2, 64, 4095, 4096} {
		if p, ok := impl.NewPool(room); !ok || !samePools(p, impl.Pool{Room: room}) || !impl.GoodPool(p) {
			t.Errorf("NewPool(%d) = %v, %v", room, p, ok)
		}
	}
	for _, room := range append(slices.Clone(farInts), 0, 4097, 4098, 8192) {
		if p, ok := impl.NewPool(room); ok || !samePools(p, impl.Pool{}) {
			t.Errorf("NewPool(%d) = %v, %v", room, p, ok)
		}
	}
}

// goodWith: whether the plain pool is good with one thing changed.
func goodWith(t *testing.T, what string, want bool, change func(*impl.Pool)) {
	t.Helper()
	p := plainPool()
	change(&p)
	if got := impl.GoodPool(p); got != want {
		t.Errorf("%s: GoodPool(%v) = %v", what, p, got)
	}
	heldGoodPool(t, p)
}

// numberWith: the plain pool with one number in place of another one.
func numberWith(t *testing.T, what string, place func(*impl.Pool) *int, good, wrong []int) {
	t.Helper()
	for _, n := range good {
		goodWith(t, what, true, func(p *impl.Pool) { *place(p) = n })
	}
	for _, n := range slices.Concat(farInts, wrong) {
		goodWith(t, what, false, func(p *impl.Pool) { *place(p) = n })
	}
}

func TestRoomsAndClocksOfPools(t *testing.T) {
	t.Parallel()
	room := func(p *impl.Pool) *int { return &p.Room }
	numberWith(t, "Room", room, []int{70, 71, 128, 4095, 4096}, []int{0, 1, 64, 69, 4097, 8192})
	clock := func(p *impl.Pool) *int { return &p.Clock }
	numberWith(t, "Clock", clock, []int{8, 9, 10, 99999, 100000}, []int{0, 1, 7, 100001, 100002})
	for _, room := range slices.Concat(farInts, []int{0, 1, 4096, 4097}) {
		for _, clock := range slices.Concat(farInts, []int{0, 1, 99999, 100000, 100001}) {
			p := impl.Pool{Room: room, Clock: clock}
			want := (room == 1 || room == 4096) && (clock == 0 || clock == 1 || clock == 99999 || clock == 100000)
			if got := impl.GoodPool(p); got != want {
				t.Errorf("GoodPool(%v) = %v", p, got)
			}
		}
	}
}

func TestIdsOfPools(t *testing.T) {
	t.Parallel()
	for n := range 3 {
		good := slices.DeleteFunc([]int{0, 1, 6, 10, 11, 998, 999}, func(id int) bool { return id == plainPool().Near[n].Id })
		wrong := slices.DeleteFunc([]int{1000, 1001, 2, 5, 7, 9, 11}, func(id int) bool { return id == plainPool().Near[n].Id })
		if n != 0 {
			good = slices.DeleteFunc(good, func(id int) bool { return id == 11 })
		}
		numberWith(t, "Id of a near one", func(p *impl.Pool) *int { return &p.Near[n].Id }, good, wrong)
	}
	numberWith(t, "Id of the first far one", func(p *impl.Pool) *int { return &p.Far[0].Id }, []int{0, 1, 2, 3, 8}, []int{5, 7, 9, 10, 11, 999, 1000})
	numberWith(t, "Id of the last far one", func(p *impl.Pool) *int { return &p.Far[1].Id }, []int{3, 8, 10, 998, 999}, []int{0, 1, 2, 5, 7, 11, 1000})
	goodWith(t, "far ones the other way round", false, func(p *impl.Pool) { slices.Reverse(p.Far) })
	goodWith(t, "a far one twice", false, func(p *impl.Pool) { p.Far = append(p.Far, impl.Hold{Id: 9, Size: 1, Align: 1, Last: 2}) })
	goodWith(t, "a third far one", true, func(p *impl.Pool) { p.Far = append(p.Far, impl.Hold{Id: 10, Size: 1, Align: 1, Last: 2}) })
}

func TestPlacesAndSizesOfPools(t *testing.T) {
	t.Parallel()
	at := func(n int) func(*impl.Pool) *int { return func(p *impl.Pool) *int { return &p.Near[n].At } }
	size := func(n int) func(*impl.Pool) *int { return func(p *impl.Pool) *int { return &p.Near[n].Size } }
	numberWith(t, "At of the first one", at(0), []int{0, 1, 5, 6}, []int{7, 15, 16, 31, 32, 60, 61, 70})
	numberWith(t, "At of the second one", at(1), []int{16}, []int{0, 8, 17, 24, 25, 32, 48, 64, 80})
	numberWith(t, "At of the last one", at(2), []int{32, 40}, []int{0, 8, 16, 24, 31, 33, 41, 44, 46, 47, 48, 64, 72})
	numberWith(t, "Size of the first one", size(0), []int{1, 9, 16}, []int{0, 17, 18, 69, 70, 71})
	numberWith(t, "Size of the second one", size(1), []int{1, 24}, []int{0, 25, 54, 55, 70, 71})
	numberWith(t, "Size of the last one", size(2), []int{1, 29, 30}, []int{0, 31, 32, 70, 71})
	goodWith(t, "near ones the other way round", false, func(p *impl.Pool) { slices.Reverse(p.Near) })
	goodWith(t, "two near ones the other way round", false, func(p *impl.Pool) { p.Near[1], p.Near[2] = p.Near[2], p.Near[1] })
	goodWith(t, "the whole room", true, func(p *impl.Pool) { p.Near = holdsFrom("1 0 70 256 9") })
	goodWith(t, "the last byte", true, func(p *impl.Pool) { p.Near = holdsFrom("1 69 1 1 9") })
	goodWith(t, "the byte behind the last", false, func(p *impl.Pool) { p.Near = holdsFrom("1 70 1 1 9") })
	goodWith(t, "one byte beyond", false, func(p *impl.Pool) { p.Near = holdsFrom("1 1 70 1 9") })
	goodWith(t, "two that touch", true, func(p *impl.Pool) { p.Near = holdsFrom("1 0 35 1 9 | 3 35 35 1 8") })
	goodWith(t, "two that meet by a byte", false, func(p *impl.Pool) { p.Near = holdsFrom("1 0 35 1 9 | 3 34 36 1 8") })
	goodWith(t, "one within another one", false, func(p *impl.Pool) { p.Near = holdsFrom("1 0 35 1 9 | 3 10 2 1 8") })
	goodWith(t, "two at one place", false, func(p *impl.Pool) { p.Near = holdsFrom("1 0 35 1 9 | 3 0 35 1 8") })
}

func TestFarHoldsOfPools(t *testing.T) {
	t.Parallel()
	for n := range 2 {
		numberWith(t, "At of a far one", func(p *impl.Pool) *int { return &p.Far[n].At }, []int{0}, []int{1, 2, 16, 64, 70})
		numberWith(t, "Size of a far one", func(p *impl.Pool) *int { return &p.Far[n].Size }, []int{1, 30, 69, 70}, []int{0, 71, 4096})
	}
}

func TestAlignsOfPools(t *testing.T) {
	t.Parallel()
	none := []int{0, 3, 5, 6, 7, 9, 12, 96, 127, 129, 255, 257, 384, 512, 1024}
	first := func(p *impl.Pool) *int { return &p.Near[0].Align }
	numberWith(t, "Align at 0", first, []int{1, 2, 4, 8, 16, 32, 64, 128, 256}, none)
	second := func(p *impl.Pool) *int { return &p.Near[1].Align }
	numberWith(t, "Align at 16", second, []int{1, 2, 4, 8, 16}, append(none, 32, 64, 128, 256))
	last := func(p *impl.Pool) *int { return &p.Near[2].Align }
	numberWith(t, "Align at 40", last, []int{1, 2, 4, 8}, append(none, 10, 20, 16, 32, 64, 128, 256))
	for n := range 2 {
		far := func(p *impl.Pool) *int { return &p.Far[n].Align }
		numberWith(t, "Align of a far one", far, []int{1, 2, 4, 8, 16, 32, 64, 128, 256}, none)
	}
}

func TestLastsOfPools(t *testing.T) {
	t.Parallel()
	for n := range 5 {
		place := func(p *impl.Pool) *int {
			if n < 3 {
				return &p.Near[n].Last
			}
			return &p.Far[n-3].Last
		}
		p := plainPool()
		was := *place(&p)
		others := slices.DeleteFunc([]int{1, 3, 5, 6, 8}, func(last int) bool { return last == was })
		numberWith(t, "Last", place, []int{was, 2, 4, 7, 9}, append(others, 0, 10, 11))
	}
	for last, want := range []bool{false, true, false} {
		p := poolFrom(1, 1, "1 0 1 1 1", "")
		p.Near[0].Last = last
		far := impl.Pool{Room: 1, Clock: 1, Far: p.Near}
		if impl.GoodPool(p) != want || impl.GoodPool(far) != want {
			t.Errorf("Last %d by a Clock of 1: %v, %v", last, impl.GoodPool(p), impl.GoodPool(far))
		}
	}
}

func TestHowManyHolds(t *testing.T) {
	t.Parallel()
	for near := range 28 {
		for far := range 28 {
			p := manyHolds(near, far)
			if got := impl.GoodPool(p); got != (near+far <= 24) {
				t.Errorf("with %d near and %d far ones: %v", near, far, got)
			}
		}
	}
	for _, p := range []impl.Pool{{Room: 1}, {Room: 1, Near: []impl.Hold{}, Far: []impl.Hold{}}, {Room: 1, Near: []impl.Hold{}}, {Room: 1, Far: []impl.Hold{}}} {
		if !impl.GoodPool(p) {
			t.Errorf("GoodPool(%v) = false", p)
		}
	}
	if impl.GoodPool(impl.Pool{}) || impl.GoodPool(impl.Pool{Room: 1, Near: make([]impl.Hold, 1)}) || impl.GoodPool(impl.Pool{Room: 1, Far: make([]impl.Hold, 1<<16)}) {
		t.Error("pools of noughts are good")
	}
}

func firstFit(t *testing.T, p impl.Pool, size, align, want int) {
	t.Helper()
	if got := impl.FirstFit(p, size, align); got != want {
		t.Errorf("FirstFit(%v, %d, %d) = %d, want %d", p, size, align, got, want)
	}
	heldFit(t, p, size, align)
}

func TestFirstFitOfEmptyAndFull(t *testing.T) {
	t.Parallel()
	for _, room := range []int{1, 2, 100, 4096} {
		for _, align := range wantedAligns() {
			firstFit(t, impl.Pool{Room: room}, 1, align, 0)
			firstFit(t, impl.Pool{Room: room}, room, align, 0)
			firstFit(t, impl.Pool{Room: room}, room+1, align, -1)
			firstFit(t, impl.Pool{Room: room}, 0, align, -1)
			firstFit(t, fullPool(), 1, align, -1)
			firstFit(t, fullPool(), 32, align, -1)
		}
	}
}

func TestFirstFitOfGaps(t *testing.T) {
	t.Parallel()
	p := plainPool() // free are 10..15, 32..39, 64..69
	firstFit(t, p, 1, 1, 10)
	firstFit(t, p, 6, 1, 10)
	firstFit(t, p, 7, 1, 32)
	firstFit(t, p, 8, 1, 32)
	firstFit(t, p, 9, 1, -1)
	firstFit(t, p, 70, 1, -1)
	firstFit(t, p, 1, 2, 10)
	firstFit(t, p, 6, 2, 10)
	firstFit(t, p, 1, 4, 12)
	firstFit(t, p, 4, 4, 12)
	firstFit(t, p, 5, 4, 32) // long enough only ahead of 12
	firstFit(t, p, 1, 8, 32)
	firstFit(t, p, 8, 8, 32)
	firstFit(t, p, 8, 32, 32)
	firstFit(t, p, 1, 64, 64)
	firstFit(t, p, 6, 64, 64)
	firstFit(t, p, 7, 64, -1)
	firstFit(t, p, 1, 128, -1)
	firstFit(t, p, 1, 256, -1)
	p.Room = 300
	firstFit(t, p, 1, 128, 128)
	firstFit(t, p, 172, 128, 128)
	firstFit(t, p, 173, 128, -1)
	firstFit(t, p, 44, 256, 256)
	firstFit(t, p, 45, 256, -1)
	firstFit(t, p, 236, 1, 64)
	firstFit(t, p, 237, 1, -1)
	ahead := poolFrom(40, 2, "1 9 3 1 1 | 2 20 20 4 2", "")
	firstFit(t, ahead, 8, 8, 0)
	firstFit(t, ahead, 9, 8, 0)
	firstFit(t, ahead, 8, 1, 0)
	firstFit(t, ahead, 10, 1, -1)
	firstFit(t, ahead, 9, 256, 0)
}

func TestFirstFitOfNothing(t *testing.T) {
	t.Parallel()
	for _, p := range []impl.Pool{{Room: 4096}, plainPool()} {
		for _, size := range slices.Concat(farInts, []int{0, p.Room + 1, p.Room + 2, 4097}) {
			firstFit(t, p, size, 1, -1)
		}
		for _, align := range slices.Concat(farInts, []int{-4, 0, 3, 5, 6, 7, 96, 255, 257, 512, 1024}) {
			firstFit(t, p, 1, align, -1)
		}
	}
	for _, change := range poolFaults() {
		p := plainPool()
		change(&p)
		firstFit(t, p, 1, 1, -1)
	}
}

// poolFaults: what makes the plain pool one that is not good.
func poolFaults() []func(*impl.Pool) {
	return []func(*impl.Pool){
		func(p *impl.Pool) { p.Room = 0 },
		func(p *impl.Pool) { p.Room = 69 },
		func(p *impl.Pool) { p.Room = 4097 },
		func(p *impl.Pool) { p.Clock = 7 },
		func(p *impl.Pool) { p.Clock = -1 },
		func(p *impl.Pool) { p.Clock = 100001 },
		func(p *impl.Pool) { p.Near[0].Id = 5 },
		func(p *impl.Pool) { p.Near[0].Id = 2 },
		func(p *impl.Pool) { p.Near[0].Id = -1 },
		func(p *impl.Pool) { p.Near[0].At = -1 },
		func(p *impl.Pool) { p.Near[1].At = 17 },
		func(p *impl.Pool) { p.Near[1].Align = 12 },
		func(p *impl.Pool) { p.Near[2].Size = 31 },
		func(p *impl.Pool) { p.Near[2].Last = 8 },
		func(p *impl.Pool) { p.Near[2].Last = 1 },
		func(p *impl.Pool) { p.Near[2].Last = 0 },
		func(p *impl.Pool) { p.Near = append(p.Near, make([]impl.Hold, 20)...) },
		func(p *impl.Pool) { slices.Reverse(p.Near) },
		func(p *impl.Pool) { slices.Reverse(p.Far) },
		func(p *impl.Pool) { p.Far[1].At = 64 },
		func(p *impl.Pool) { p.Far[1].Align = 0 },
		func(p *impl.Pool) { p.Far[1].Size = 0 },
		func(p *impl.Pool) { p.Far[1].Last = 10 },
	}
}

func freeOf(t *testing.T, p impl.Pool, text string) {
	t.Helper()
	var want [][]int
	if text != "" {
		want = setsOf(text)
	}
	if got, ok := impl.FreeOf(p); !ok || !slices.EqualFunc(got, want, slices.Equal) {
		t.Errorf("FreeOf(%v) = %v, %v, want %v", p, got, ok, want)
	}
	heldFree(t, p)
}

func TestFreeStretches(t *testing.T) {
	t.Parallel()
	freeOf(t, impl.Pool{Room: 1}, "0 1")
	freeOf(t, impl.Pool{Room: 4096, Clock: 100000}, "0 4096")
	freeOf(t, poolFrom(9, 2, "", "1 0 9 1 2"), "0 9")
	freeOf(t, fullPool(), "")
	freeOf(t, poolFrom(1, 1, "1 0 1 1 1", ""), "")
	freeOf(t, plainPool(), "10 6 | 32 8 | 64 6")
	freeOf(t, poolFrom(16, 3, "1 3 1 1 1 | 2 4 2 2 2 | 3 8 4 8 3", ""), "0 3 | 6 2 | 12 4")
	freeOf(t, poolFrom(16, 3, "1 0 4 1 1 | 2 4 2 2 2 | 3 6 2 1 3", ""), "8 8")
	freeOf(t, poolFrom(16, 3, "1 8 4 1 1 | 2 12 2 2 2 | 3 14 2 1 3", ""), "0 8")
	freeOf(t, poolFrom(16, 2, "1 0 4 1 1 | 2 15 1 1 2", ""), "4 11")
	freeOf(t, poolFrom(16, 2, "1 1 13 1 1 | 2 15 1 1 2", ""), "0 1 | 14 1")
	freeOf(t, poolFrom(16, 1, "1 1 14 1 1", ""), "0 1 | 15 1")
	for _, change := range poolFaults() {
		p := plainPool()
		change(&p)
		if got, ok := impl.FreeOf(p); len(got) > 0 || ok {
			t.Errorf("FreeOf(%v) = %v, %v", p, got, ok)
		}
	}
}

func packedPool(t *testing.T, p impl.Pool, near string) {
	t.Helper()
	want := impl.Pool{Room: p.Room, Near: holdsFrom(near), Far: slices.Clone(p.Far), Clock: p.Clock}
	if got, ok := impl.Packed(p); !ok || !samePools(got, want) || !impl.GoodPool(got) {
		t.Errorf("Packed(%v) = %v, %v, want %v", p, got, ok, want)
	}
	heldPackedPool(t, p)
	if got, ok := impl.Packed(want); !ok || !samePools(got, want) {
		t.Errorf("Packed(%v) = %v, %v, but it stands packed", want, got, ok)
	}
}

func TestPackedPools(t *testing.T) {
	t.Parallel()
	packedPool(t, impl.Pool{Room: 5, Clock: 100000}, "")
	packedPool(t, poolFrom(5, 9, "", "3 0 5 1 4 | 4 0 1 256 7"), "")
	packedPool(t, fullPool(), "1 0 8 8 1 | 2 8 23 4 2 | 3 31 1 1 3")
	packedPool(t, plainPool(), "11 0 10 1 3 | 5 16 16 16 8 | 7 32 24 8 5")
	packedPool(t, poolFrom(64, 4, "1 5 1 1 3 | 2 10 3 1 2 | 3 20 7 1 1", "4 0 1 1 4"), "1 0 1 1 3 | 2 1 3 1 2 | 3 4 7 1 1")
	packedPool(t, poolFrom(64, 4, "9 5 1 1 3 | 2 10 3 2 2 | 3 20 7 4 1", ""), "9 0 1 1 3 | 2 2 3 2 2 | 3 8 7 4 1")
	packedPool(t, poolFrom(600, 4, "9 256 1 256 3 | 2 257 3 1 2 | 3 512 7 256 1", ""), "9 0 1 256 3 | 2 1 3 1 2 | 3 256 7 256 1")
	packedPool(t, poolFrom(600, 4, "2 1 1 1 2 | 3 512 7 256 1", ""), "2 0 1 1 2 | 3 256 7 256 1")
	packedPool(t, poolFrom(4096, 1, "0 4095 1 1 1", ""), "0 0 1 1 1")
	for _, change := range poolFaults() {
		p := plainPool()
		change(&p)
		if got, ok := impl.Packed(p); !samePools(got, impl.Pool{}) || ok {
			t.Errorf("Packed(%v) = %v, %v", p, got, ok)
		}
	}
}
