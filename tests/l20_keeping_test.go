package tests

import (
	"slices"
	"strings"
	"testing"

	"loop.example/g00053/impl"
)

// The edges that chapter 20 names of what is taken, given back and used, with what is
// answered written out.

// opsFrom: ops with commas between: `take 1 40 8`, `give 1`, `use 1`.
func opsFrom(text string) []impl.PoolOp {
	var ops []impl.PoolOp
	for part := range strings.SplitSeq(text, ",") {
		word, rest, _ := strings.Cut(strings.TrimSpace(part), " ")
		n := append(numbersOf(rest), 0, 0)
		kind := slices.Index([]string{"", "take", "give", "use"}, word)
		ops = append(ops, impl.PoolOp{Kind: kind, Id: n[0], Size: n[1], Align: n[2]})
	}
	return ops
}

// done: an op leaves a pool with these near and far holds; those that are put out.
func done(t *testing.T, p impl.Pool, op string, clock int, near, far string, out ...int) {
	t.Helper()
	was, do := copiedPool(p), opsFrom(op)[0]
	want := poolFrom(p.Room, clock, near, far)
	got, code, gone := impl.PoolDo(p, do)
	if code != 0 || !samePools(got, want) || !slices.Equal(gone, out) {
		t.Errorf("PoolDo(%v, %s) = %v, %d, %v, want %v, %v", p, op, got, code, gone, want, out)
	}
	if !samePools(p, was) {
		t.Errorf("%s has changed %v into %v", op, was, p)
	}
	heldDo(t, p, do)
}

// refusedOp: with a code the pool stays, and none is put out.
func refusedOp(t *testing.T, p impl.Pool, op impl.PoolOp, want int) {
	t.Helper()
	was := copiedPool(p)
	got, code, out := impl.PoolDo(p, op)
	if code != want || !samePools(got, was) || !samePools(p, was) || len(out) > 0 {
		t.Errorf("PoolDo(%v, %v) = %v, %d, %v, want the code %d", was, op, got, code, out, want)
	}
	heldDo(t, p, op)
}

// plainOps: what is done of the plain pool, one of each kind.
func plainOps() []impl.PoolOp { return opsFrom("take 3 6 2, give 5, use 2, use 7, give 9") }

func TestKindsOfOps(t *testing.T) {
	t.Parallel()
	for _, op := range plainOps() {
		if _, code, _ := impl.PoolDo(plainPool(), op); code != 0 {
			t.Errorf("%v has the code %d", op, code)
		}
		for _, kind := range append(slices.Clone(farInts), 0, 4, 5, 6, 7) {
			refusedOp(t, plainPool(), impl.PoolOp{Kind: kind, Id: op.Id, Size: op.Size, Align: op.Align}, impl.PoolBad)
		}
	}
	refusedOp(t, plainPool(), impl.PoolOp{}, impl.PoolBad)
}

func TestFieldsOfOps(t *testing.T) {
	t.Parallel()
	for _, op := range opsFrom("give 5, use 2, use 7, give 9, give 3, use 3") {
		for _, n := range append(slices.Clone(farInts), 1, 2, 8, 16, 30, 256) {
			refusedOp(t, plainPool(), impl.PoolOp{Kind: op.Kind, Id: op.Id, Size: n}, impl.PoolBad)
			refusedOp(t, plainPool(), impl.PoolOp{Kind: op.Kind, Id: op.Id, Align: n}, impl.PoolBad)
		}
	}
	for _, id := range []int{3, 5, 9} {
		for _, n := range append(slices.Clone(farInts), 0, 71, 72, 4096, 4097) {
			refusedOp(t, plainPool(), impl.PoolOp{Kind: impl.PoolTake, Id: id, Size: n, Align: 1}, impl.PoolBad)
		}
		for _, n := range append(slices.Clone(farInts), 0, 3, 5, 6, 7, 12, 96, 255, 257, 384, 512, 1024) {
			refusedOp(t, plainPool(), impl.PoolOp{Kind: impl.PoolTake, Id: id, Size: 1, Align: n}, impl.PoolBad)
		}
	}
}

func TestIdsOfOps(t *testing.T) {
	t.Parallel()
	for _, op := range opsFrom("take 0 1 1, give 0, use 0") {
		for _, id := range append(slices.Clone(farInts), 1000, 1001) {
			op.Id = id
			refusedOp(t, plainPool(), op, impl.PoolBad)
		}
	}
	for _, id := range []int{0, 999} {
		p := poolFrom(4, 1, "", "")
		taken, code, _ := impl.PoolDo(p, impl.PoolOp{Kind: impl.PoolTake, Id: id, Size: 4, Align: 1})
		if code != 0 || len(taken.Near) != 1 || taken.Near[0].Id != id {
			t.Errorf("Id %d: %v, %d", id, taken, code)
		}
		used, code, _ := impl.PoolDo(taken, impl.PoolOp{Kind: impl.PoolUse, Id: id})
		if code != 0 || used.Near[0].Last != 3 {
			t.Errorf("Id %d: %v, %d", id, used, code)
		}
		given, code, _ := impl.PoolDo(used, impl.PoolOp{Kind: impl.PoolGive, Id: id})
		if code != 0 || !samePools(given, poolFrom(4, 3, "", "")) {
			t.Errorf("Id %d: %v, %d", id, given, code)
		}
	}
}

func TestLastClockOfOps(t *testing.T) {
	t.Parallel()
	p := plainPool()
	for _, op := range append(plainOps(), opsFrom("take 5 1 1, take 9 1 1, give 3, use 3")...) {
		p.Clock = 100000
		refusedOp(t, p, op, impl.PoolBad)
	}
	p.Clock = 99999
	done(t, p, "take 3 6 2", 100000, "11 0 10 1 3 | 3 10 6 2 100000 | 5 16 16 16 8 | 7 40 24 8 5", "2 0 30 2 1 | 9 0 70 64 6")
	done(t, p, "use 7", 100000, "11 0 10 1 3 | 5 16 16 16 8 | 7 40 24 8 100000", "2 0 30 2 1 | 9 0 70 64 6")
	done(t, p, "use 2", 100000, "5 16 16 16 8 | 2 32 30 2 100000", "7 0 24 8 5 | 9 0 70 64 6 | 11 0 10 1 3", 11, 7)
	done(t, p, "give 9", 99999, "11 0 10 1 3 | 5 16 16 16 8 | 7 40 24 8 5", "2 0 30 2 1")
	refusedOp(t, p, opsFrom("use 3")[0], impl.PoolNone)
	refusedOp(t, p, opsFrom("take 7 1 1")[0], impl.PoolFull)
}

func TestOpsOfPoolsThatAreNotGood(t *testing.T) {
	t.Parallel()
	for _, change := range poolFaults() {
		for _, op := range append(plainOps(), impl.PoolOp{}, impl.PoolOp{Kind: 4}) {
			p := plainPool()
			change(&p)
			got, code, out := impl.PoolDo(p, op)
			if code != impl.PoolBad || !samePools(got, impl.Pool{}) || len(out) > 0 {
				t.Errorf("PoolDo(%v, %v) = %v, %d, %v", p, op, got, code, out)
			}
			heldDo(t, p, op)
		}
	}
}

func TestTakeWhatFitsAtOnce(t *testing.T) {
	t.Parallel()
	p := plainPool()
	far := "2 0 30 2 1 | 9 0 70 64 6"
	done(t, p, "take 3 1 1", 10, "11 0 10 1 3 | 3 10 1 1 10 | 5 16 16 16 8 | 7 40 24 8 5", far)
	done(t, p, "take 3 6 1", 10, "11 0 10 1 3 | 3 10 6 1 10 | 5 16 16 16 8 | 7 40 24 8 5", far)
	done(t, p, "take 3 3 4", 10, "11 0 10 1 3 | 3 12 3 4 10 | 5 16 16 16 8 | 7 40 24 8 5", far)
	done(t, p, "take 3 8 1", 10, "11 0 10 1 3 | 5 16 16 16 8 | 3 32 8 1 10 | 7 40 24 8 5", far)
	done(t, p, "take 3 1 32", 10, "11 0 10 1 3 | 5 16 16 16 8 | 3 32 1 32 10 | 7 40 24 8 5", far)
	done(t, p, "take 3 6 64", 10, "11 0 10 1 3 | 5 16 16 16 8 | 7 40 24 8 5 | 3 64 6 64 10", far)
	done(t, poolFrom(9, 0, "", ""), "take 0 9 256", 1, "0 0 9 256 1", "")
	done(t, poolFrom(9, 7, "", "1 0 9 1 7"), "take 0 9 256", 8, "0 0 9 256 8", "1 0 9 1 7")
	done(t, poolFrom(9, 7, "1 3 6 1 6", ""), "take 0 3 2", 8, "0 0 3 2 8 | 1 3 6 1 6", "")
	for _, align := range wantedAligns() {
		p := poolFrom(4096, 1, "1 0 1 1 1", "")
		got, code, out := impl.PoolDo(p, impl.PoolOp{Kind: impl.PoolTake, Id: 2, Size: 3000, Align: align})
		if code != 0 || len(out) > 0 || len(got.Near) != 2 || got.Near[1] != (impl.Hold{Id: 2, At: align, Size: 3000, Align: align, Last: 2}) {
			t.Errorf("aligned to %d: %v, %d, %v", align, got, code, out)
		}
	}
}

func TestTakeWhatFitsForOthers(t *testing.T) {
	t.Parallel()
	p := plainPool()
	without11 := "2 0 30 2 1 | 9 0 70 64 6 | 11 0 10 1 3"
	done(t, p, "take 3 9 1", 10, "3 0 9 1 10 | 5 16 16 16 8 | 7 40 24 8 5", without11, 11)
	done(t, p, "take 3 16 16", 10, "3 0 16 16 10 | 5 16 16 16 8 | 7 40 24 8 5", without11, 11)
	done(t, p, "take 3 7 64", 10, "3 0 7 64 10 | 5 16 16 16 8 | 7 40 24 8 5", without11, 11)
	done(t, p, "take 3 1 128", 10, "3 0 1 128 10 | 5 16 16 16 8 | 7 40 24 8 5", without11, 11)
	without7 := "2 0 30 2 1 | 7 0 24 8 5 | 9 0 70 64 6 | 11 0 10 1 3"
	done(t, p, "take 3 17 1", 10, "5 16 16 16 8 | 3 32 17 1 10", without7, 11, 7)
	done(t, p, "take 3 38 32", 10, "5 16 16 16 8 | 3 32 38 32 10", without7, 11, 7)
	all := "2 0 30 2 1 | 5 0 16 16 8 | 7 0 24 8 5 | 9 0 70 64 6 | 11 0 10 1 3"
	done(t, p, "take 3 39 1", 10, "3 0 39 1 10", all, 11, 7, 5)
	done(t, p, "take 3 70 256", 10, "3 0 70 256 10", all, 11, 7, 5)
	done(t, p, "take 3 17 64", 10, "3 0 17 64 10", all, 11, 7, 5)
	refusedOp(t, p, opsFrom("take 3 71 1")[0], impl.PoolBad)
	done(t, fullPool(), "take 9 8 1", 4, "9 0 8 1 4 | 2 8 23 4 2 | 3 31 1 1 3", "1 0 8 8 1", 1)
	done(t, fullPool(), "take 0 9 1", 4, "0 0 9 1 4 | 3 31 1 1 3", "1 0 8 8 1 | 2 0 23 4 2", 1, 2)
	done(t, fullPool(), "take 0 32 1", 4, "0 0 32 1 4", "1 0 8 8 1 | 2 0 23 4 2 | 3 0 1 1 3", 1, 2, 3)
	done(t, poolFrom(1, 1, "8 0 1 1 1", ""), "take 4 1 1", 2, "4 0 1 1 2", "8 0 1 1 1", 8)
}

// Who is put out is told by the least Last alone: for each order of three uses.
func TestWhoIsPutOut(t *testing.T) {
	t.Parallel()
	for _, lasts := range [][]int{{1, 2, 3}, {1, 3, 2}, {2, 1, 3}, {2, 3, 1}, {3, 1, 2}, {3, 2, 1}} {
		p := poolFrom(30, 3, "20 0 10 1 1 | 10 10 10 1 1 | 30 20 10 1 1", "")
		var want []int
		for n := range p.Near {
			p.Near[n].Last = lasts[n]
		}
		for last := 1; last <= 3; last++ {
			want = append(want, p.Near[slices.Index(lasts, last)].Id)
		}
		got, code, out := impl.PoolDo(p, opsFrom("take 0 10 1")[0])
		first := p.Near[slices.Index(lasts, 1)]
		if code != 0 || !slices.Equal(out, want[:1]) || !slices.Equal(got.Far, []impl.Hold{{Id: want[0], Size: 10, Align: 1, Last: 1}}) {
			t.Errorf("by the Lasts %v: %v, %d, %v", lasts, got, code, out)
		}
		if !slices.Contains(got.Near, impl.Hold{Id: 0, At: first.At, Size: 10, Align: 1, Last: 4}) {
			t.Errorf("by the Lasts %v: %v", lasts, got)
		}
		if all, _, out := impl.PoolDo(p, opsFrom("take 0 30 1")[0]); !slices.Equal(out, want) || len(all.Far) != 3 {
			t.Errorf("by the Lasts %v: %v, %v", lasts, all, out)
		}
	}
	sizes := poolFrom(30, 9, "1 0 1 1 7 | 2 1 20 1 4 | 3 21 9 1 2", "")
	done(t, sizes, "take 0 1 1", 10, "1 0 1 1 7 | 2 1 20 1 4 | 0 21 1 1 10", "3 0 9 1 2", 3)
	done(t, sizes, "take 0 10 1", 10, "1 0 1 1 7 | 0 1 10 1 10", "2 0 20 1 4 | 3 0 9 1 2", 3, 2)
}

func TestTakeWhatIsThere(t *testing.T) {
	t.Parallel()
	for _, id := range []int{11, 5, 7, 2, 9} {
		for _, size := range []int{1, 70} {
			refusedOp(t, plainPool(), impl.PoolOp{Kind: impl.PoolTake, Id: id, Size: size, Align: 1}, impl.PoolFull)
		}
	}
	for near := range 25 {
		p := manyHolds(near, 24-near)
		refusedOp(t, p, opsFrom("take 0 1 1")[0], impl.PoolFull)
		refusedOp(t, p, opsFrom("take 0 65 1")[0], impl.PoolBad)
		if near == 24 {
			break
		}
		p = manyHolds(near, 23-near)
		got, code, out := impl.PoolDo(p, opsFrom("take 0 1 1")[0])
		if code != 0 || len(out) > 0 || len(got.Near) != near+1 || len(got.Far) != 23-near || got.Clock != 24 {
			t.Errorf("a hold more than %v: %v, %d, %v", p, got, code, out)
		}
		got, code, out = impl.PoolDo(p, opsFrom("take 0 64 1")[0])
		if code != 0 || len(out) != near || len(got.Near) != 1 || len(got.Far) != 23 || !impl.GoodPool(got) {
			t.Errorf("all of %v: %v, %d, %v", p, got, code, out)
		}
	}
}

func TestGiveBack(t *testing.T) {
	t.Parallel()
	p := plainPool()
	near, far := "11 0 10 1 3 | 5 16 16 16 8 | 7 40 24 8 5", "2 0 30 2 1 | 9 0 70 64 6"
	done(t, p, "give 11", 9, "5 16 16 16 8 | 7 40 24 8 5", far)
	done(t, p, "give 5", 9, "11 0 10 1 3 | 7 40 24 8 5", far)
	done(t, p, "give 7", 9, "11 0 10 1 3 | 5 16 16 16 8", far)
	done(t, p, "give 2", 9, near, "9 0 70 64 6")
	done(t, p, "give 9", 9, near, "2 0 30 2 1")
	for _, id := range []int{0, 1, 3, 4, 6, 8, 10, 12, 999} {
		refusedOp(t, p, impl.PoolOp{Kind: impl.PoolGive, Id: id}, impl.PoolNone)
		refusedOp(t, impl.Pool{Room: 9}, impl.PoolOp{Kind: impl.PoolGive, Id: id}, impl.PoolNone)
	}
	done(t, poolFrom(1, 1, "8 0 1 1 1", ""), "give 8", 1, "", "")
	done(t, poolFrom(1, 1, "", "8 0 1 1 1"), "give 8", 1, "", "")
}

func TestUseHolds(t *testing.T) {
	t.Parallel()
	p := plainPool()
	far := "2 0 30 2 1 | 9 0 70 64 6"
	done(t, p, "use 11", 10, "11 0 10 1 10 | 5 16 16 16 8 | 7 40 24 8 5", far)
	done(t, p, "use 5", 10, "11 0 10 1 3 | 5 16 16 16 10 | 7 40 24 8 5", far)
	done(t, p, "use 7", 10, "11 0 10 1 3 | 5 16 16 16 8 | 7 40 24 8 10", far)
	done(t, p, "use 2", 10, "5 16 16 16 8 | 2 32 30 2 10", "7 0 24 8 5 | 9 0 70 64 6 | 11 0 10 1 3", 11, 7)
	done(t, p, "use 9", 10, "9 0 70 64 10", "2 0 30 2 1 | 5 0 16 16 8 | 7 0 24 8 5 | 11 0 10 1 3", 11, 7, 5)
	for _, id := range []int{0, 1, 3, 4, 6, 8, 10, 12, 999} {
		refusedOp(t, p, impl.PoolOp{Kind: impl.PoolUse, Id: id}, impl.PoolNone)
		refusedOp(t, impl.Pool{Room: 9}, impl.PoolOp{Kind: impl.PoolUse, Id: id}, impl.PoolNone)
	}
	small := poolFrom(70, 9, "11 0 10 1 3 | 5 16 16 16 8", "2 0 30 2 1 | 4 0 3 4 2")
	done(t, small, "use 4", 10, "11 0 10 1 3 | 4 12 3 4 10 | 5 16 16 16 8", "2 0 30 2 1")
	done(t, small, "use 2", 10, "11 0 10 1 3 | 5 16 16 16 8 | 2 32 30 2 10", "4 0 3 4 2")
	done(t, poolFrom(1, 1, "", "8 0 1 1 1"), "use 8", 2, "8 0 1 1 2", "")
	done(t, poolFrom(1, 2, "9 0 1 1 2", "8 0 1 1 1"), "use 8", 3, "8 0 1 1 3", "9 0 1 1 2", 9)
	many := manyHolds(23, 1)
	many.Far[0].Size = 64
	got, code, out := impl.PoolDo(many, opsFrom("use 600")[0])
	if code != 0 || len(out) != 23 || len(got.Near) != 1 || len(got.Far) != 23 || !impl.GoodPool(got) {
		t.Errorf("%v: %v, %d, %v", many, got, code, out)
	}
}

// ranAs: the ops of a new pool leave these holds; their codes.
func ranAs(t *testing.T, room int, ops string, clock int, near, far, codes string) {
	t.Helper()
	want := poolFrom(room, clock, near, far)
	got, told, ok := impl.PoolRun(room, opsFrom(ops))
	if !ok || !samePools(got, want) || !slices.Equal(told, numbersOf(codes)) {
		t.Errorf("PoolRun(%d, %s) = %v, %v, %v, want %v, %s", room, ops, got, told, ok, want, codes)
	}
	heldPoolRun(t, room, opsFrom(ops))
}

func TestRunsOfOps(t *testing.T) {
	t.Parallel()
	ranAs(t, 64, "take 1 40 1, take 2 20 16, take 3 30 1, use 1", 4, "1 0 40 1 4", "2 0 20 16 2 | 3 0 30 1 3", "0 0 0 0")
	ranAs(t, 64, "take 1 40 1, take 1 1 1, take 2 65 1, give 3, nothing 1, use 3, take 2 24 8, give 2 1", 2, "1 0 40 1 1 | 2 40 24 8 2", "", "0 2 1 3 1 3 0 1")
	ranAs(t, 1, "take 5 1 256, take 5 1 1, take 6 1 1, use 6, use 5, give 6, give 6, take 6 1 2", 5, "6 0 1 2 5", "5 0 1 256 4", "0 2 0 0 0 0 3 0")
	ranAs(t, 1, "take 5 2 1", 0, "", "", "1")
	ranAs(t, 4096, "take 0 4096 256, give 0", 1, "", "", "0 0")
	ranAs(t, 4096, "take 999 4096 256, take 0 4096 1, use 999", 3, "999 0 4096 256 3", "0 0 4096 1 2", "0 0 0")
	ranAs(t, 10, "use 1", 0, "", "", "3")
	ranAs(t, 10, "take 1 2 1, take 2 2 1, take 3 2 1, give 2, take 4 1 2, take 5 1 1", 5, "1 0 2 1 1 | 4 2 1 2 4 | 5 3 1 1 5 | 3 4 2 1 3", "", "0 0 0 0 0 0")
}

func TestHowManyOpsRun(t *testing.T) {
	t.Parallel()
	for _, room := range []int{1, 2, 4096} {
		for _, none := range [][]impl.PoolOp{nil, {}} {
			if p, codes, ok := impl.PoolRun(room, none); !ok || len(codes) > 0 || !samePools(p, impl.Pool{Room: room}) {
				t.Errorf("PoolRun(%d, nothing) = %v, %v, %v", room, p, codes, ok)
			}
		}
		for _, ops := range [][]impl.PoolOp{make([]impl.PoolOp, 80), slices.Repeat(opsFrom("take 7 1 1"), 80), slices.Repeat(opsFrom("take 1 1 1, use 1, give 1, give 1"), 20)} {
			p, codes, ok := impl.PoolRun(room, ops)
			if !ok || len(codes) != 80 || !impl.GoodPool(p) {
				t.Errorf("PoolRun(%d, %v) = %v, %v, %v", room, ops, p, codes, ok)
			}
			heldPoolRun(t, room, ops)
			for _, many := range []int{81, 82, 1 << 16} {
				more := slices.Repeat(ops, 1+many/80)[:many]
				if p, codes, ok := impl.PoolRun(room, more); ok || len(codes) > 0 || !samePools(p, impl.Pool{}) {
					t.Errorf("PoolRun(%d, %d ops) = %v, %v, %v", room, many, p, codes, ok)
				}
			}
		}
	}
	for _, room := range slices.Concat(farInts, []int{0, 4097, 8192}) {
		for _, ops := range [][]impl.PoolOp{nil, opsFrom("take 1 1 1"), make([]impl.PoolOp, 81)} {
			if p, codes, ok := impl.PoolRun(room, ops); ok || len(codes) > 0 || !samePools(p, impl.Pool{}) {
				t.Errorf("PoolRun(%d, %d ops) = %v, %v, %v", room, len(ops), p, codes, ok)
			}
		}
	}
}
