package tests

import (
	"math"
	"slices"
	"testing"

	"loop.example/g00053/impl"
)

// The edges that chapter 2 names, with their words written out.

const two = uint32(0x40000000)
const farNaN = uint32(0xff800001) // a NaN that must not come out of a sum

var badMasks = [...]int{-1, -2, -65535, -65536, -1 << 32, math.MinInt64, math.MinInt64 + 1, 65536, 131071, 1 << 32, 1<<32 + 1, math.MaxInt64}

func cwOf(re, im uint32) impl.Cw { return impl.Cw{Re: re, Im: im} }

func TestSignsOfNoughtsInSums(t *testing.T) {
	t.Parallel()
	for _, e := range []struct{ a, b, sum, product impl.Cw }{
		{cwOf(0, 0), cwOf(0, 0), cwOf(0, 0), cwOf(0, 0)},
		{cwOf(minus, minus), cwOf(minus, minus), cwOf(minus, minus), cwOf(0, 0)},
		{cwOf(minus, 0), cwOf(0, minus), cwOf(0, 0), cwOf(0, 0)},
		{cwOf(minus, 0), cwOf(one, 0), cwOf(one, 0), cwOf(minus, 0)},
		{cwOf(minus, minus), cwOf(one, 0), cwOf(one, 0), cwOf(0, minus)},
		{cwOf(0, minus), cwOf(one, one), cwOf(one, one), cwOf(0, 0)},
		{cwOf(one, one), cwOf(one|minus, one|minus), cwOf(0, 0), cwOf(0, two|minus)},
		{cwOf(one, one), cwOf(one, one), cwOf(two, two), cwOf(0, two)},
	} {
		if got := impl.AddCw(e.a, e.b); got != e.sum {
			t.Errorf("AddCw(%#x, %#x) = %#x, want %#x", e.a, e.b, got, e.sum)
		}
		if got := impl.MulCw(e.a, e.b); got != e.product {
			t.Errorf("MulCw(%#x, %#x) = %#x, want %#x", e.a, e.b, got, e.product)
		}
	}
}

func TestInfinitePartsOfProducts(t *testing.T) {
	t.Parallel()
	nan := uint32(impl.TheNaN)
	for _, e := range []struct{ a, b, product impl.Cw }{
		{cwOf(infinite, 0), cwOf(one, 0), cwOf(infinite, nan)},
		{cwOf(infinite, infinite), cwOf(one, one), cwOf(nan, infinite)},
		{cwOf(infinite, one), cwOf(one, one|minus), cwOf(infinite, infinite|minus)},
		{cwOf(farNaN, one), cwOf(one, one), cwOf(nan, nan)},
		{cwOf(greatest, 0), cwOf(two, 0), cwOf(infinite, 0)},
		{cwOf(1, 0), cwOf(1, one|minus), cwOf(0, 1|minus)},
	} {
		if got := impl.MulCw(e.a, e.b); got != e.product {
			t.Errorf("MulCw(%#x, %#x) = %#x, want %#x", e.a, e.b, got, e.product)
		}
	}
}

func TestTurnsOfNoughtsAndNaNs(t *testing.T) {
	t.Parallel()
	nan := uint32(impl.TheNaN)
	for _, e := range []struct {
		a        impl.Cw
		quarters int
		want     impl.Cw
	}{
		{cwOf(one, two), 0, cwOf(one, two)},
		{cwOf(one, two), 1, cwOf(two|minus, one)},
		{cwOf(one, two), 2, cwOf(one|minus, two|minus)},
		{cwOf(one, two), 3, cwOf(two, one|minus)},
		{cwOf(one, two), 4, cwOf(one, two)},
		{cwOf(one, two), -1, cwOf(two, one|minus)},
		{cwOf(one, two), -2, cwOf(one|minus, two|minus)},
		{cwOf(one, two), -3, cwOf(two|minus, one)},
		{cwOf(one, two), -4, cwOf(one, two)},
		{cwOf(one, two), math.MinInt64, cwOf(one, two)},
		{cwOf(one, two), math.MinInt64 + 1, cwOf(two|minus, one)},
		{cwOf(one, two), math.MaxInt64, cwOf(two, one|minus)},
		{cwOf(one, two), math.MaxInt64 - 1, cwOf(one|minus, two|minus)},
		{cwOf(0, minus), 1, cwOf(0, 0)},
		{cwOf(0, 0), 2, cwOf(minus, minus)},
		{cwOf(0, 0), 3, cwOf(0, minus)},
		{cwOf(nan, one), 1, cwOf(one|minus, nan)},
		{cwOf(nan, one), 2, cwOf(nan|minus, one|minus)},
		{cwOf(nan, one), 3, cwOf(one, nan|minus)},
		{cwOf(farNaN, infinite+7), 0, cwOf(farNaN, infinite+7)},
		{cwOf(farNaN, infinite+7), 2, cwOf(farNaN^minus, infinite+7|minus)},
		{cwOf(infinite, 1), 1, cwOf(1|minus, infinite)},
	} {
		if got := impl.TurnCw(e.a, e.quarters); got != e.want {
			t.Errorf("TurnCw(%#x, %d) = %#x, want %#x", e.a, e.quarters, got, e.want)
		}
	}
}

func TestWavesWrittenOut(t *testing.T) {
	t.Parallel()
	nan := uint32(impl.TheNaN)
	above, below := uint32(1060439283), uint32(3207922931)
	for _, e := range []struct{ l, want []impl.Cw }{
		{[]impl.Cw{cwOf(farNaN, minus)}, []impl.Cw{cwOf(farNaN, minus)}},
		{[]impl.Cw{cwOf(one, 0), cwOf(two, one)}, []impl.Cw{cwOf(0x40400000, one), cwOf(one|minus, one|minus)}},
		{[]impl.Cw{cwOf(0, 0), cwOf(minus, minus)}, []impl.Cw{cwOf(0, 0), cwOf(0, 0)}},
		{[]impl.Cw{cwOf(minus, minus), cwOf(minus, minus)}, []impl.Cw{cwOf(0, minus), cwOf(minus, 0)}},
		{[]impl.Cw{cwOf(0, 0), cwOf(infinite, 0)}, []impl.Cw{cwOf(infinite, nan), cwOf(infinite|minus, nan)}},
		{[]impl.Cw{cwOf(infinite, 0), cwOf(0, 0)}, []impl.Cw{cwOf(infinite, 0), cwOf(infinite, 0)}},
		{[]impl.Cw{cwOf(farNaN, 0), cwOf(0, 0)}, []impl.Cw{cwOf(nan, 0), cwOf(nan, 0)}},
		{[]impl.Cw{cwOf(0, 0), cwOf(0, farNaN)}, []impl.Cw{cwOf(nan, nan), cwOf(nan, nan)}},
		{[]impl.Cw{cwOf(greatest, 0), cwOf(greatest, 0)}, []impl.Cw{cwOf(infinite, 0), cwOf(0, 0)}},
		{[]impl.Cw{{}, cwOf(one, 0), {}, {}}, []impl.Cw{cwOf(one, 0), cwOf(0, one|minus), cwOf(one|minus, 0), cwOf(0, one)}},
		{
			[]impl.Cw{{}, cwOf(one, 0), {}, {}, {}, {}, {}, {}},
			[]impl.Cw{cwOf(one, 0), cwOf(above, below), cwOf(0, one|minus), cwOf(below, below),
				cwOf(one|minus, 0), cwOf(below, above), cwOf(0, one), cwOf(above, above)},
		},
	} {
		if got := impl.WavesCw(e.l); !slices.Equal(got, e.want) {
			t.Errorf("WavesCw(%#x)\n= %#x\nwant %#x", e.l, got, e.want)
		}
	}
}

// Each product is rounded ahead of the sum: rounded once, number 1 would be
// (0x3fb504f7, 0x34e24630).
func TestWavesRoundEachProduct(t *testing.T) {
	t.Parallel()
	l := make([]impl.Cw, 8)
	l[1] = cwOf(one, one+5)
	want := cwOf(0x3fb504f6, 0x34e00000)
	if got := impl.WavesCw(l)[1]; got != want {
		t.Errorf("number 1 = %#x, want %#x", got, want)
	}
	if got := impl.MulCw(cwOf(1060439283, 3207922931), l[1]); got != want {
		t.Errorf("the product = %#x, want %#x", got, want)
	}
}

func TestWavesOfOtherLengths(t *testing.T) {
	t.Parallel()
	for n := range 40 {
		got := impl.WavesCw(make([]impl.Cw, n))
		want := 0
		if n == 1 || n == 2 || n == 4 || n == 8 {
			want = n
		}
		if len(got) != want {
			t.Errorf("WavesCw of %d numbers has %d", n, len(got))
		}
	}
	if len(impl.WavesCw(nil)) != 0 {
		t.Error("WavesCw of nil")
	}
}

func TestMasksAtTheirEdges(t *testing.T) {
	t.Parallel()
	for n := 0; n <= 16; n++ {
		last := 1<<n - 1
		if !impl.GoodMask(n, 0) || !impl.GoodMask(n, last) || impl.GoodMask(n, last+1) || impl.GoodMask(n, -1) {
			t.Errorf("the masks of %d lanes", n)
		}
		for _, mask := range badMasks {
			if impl.GoodMask(n, mask) {
				t.Errorf("GoodMask(%d, %d)", n, mask)
			}
		}
	}
	for _, n := range []int{-1, -16, 17, 18, 62, 63, 64, 65, 80, 128, 1 << 32, 1<<32 + 4, math.MinInt64, math.MaxInt64} {
		for _, mask := range append([]int{0, 1, 65535}, badMasks[:]...) {
			if impl.GoodMask(n, mask) {
				t.Errorf("GoodMask(%d, %d)", n, mask)
			}
		}
	}
}

func TestBallotsAtTheirEdges(t *testing.T) {
	t.Parallel()
	all := make([]bool, 20)
	for i := range all {
		all[i] = true
	}
	for n := range all {
		want := 1<<n - 1
		if n > 16 {
			want = 0
		}
		if got := impl.BallotOf(all[:n]); got != want {
			t.Errorf("BallotOf of %d lanes = %d, want %d", n, got, want)
		}
	}
	if impl.BallotOf(nil) != 0 || impl.BallotOf(make([]bool, 16)) != 0 || impl.BallotOf([]bool{false, false, true}) != 4 {
		t.Error("ballots")
	}
}

func TestFirstLanesAtTheirEdges(t *testing.T) {
	t.Parallel()
	for _, mask := range append([]int{0}, badMasks[:]...) {
		if n := impl.FirstLane(mask); n != -1 {
			t.Errorf("FirstLane(%d) = %d, want -1", mask, n)
		}
	}
	for mask, want := range map[int]int{1: 0, 2: 1, 12: 2, 32768: 15, 65535: 0, 65534: 1} {
		if n := impl.FirstLane(mask); n != want {
			t.Errorf("FirstLane(%d) = %d, want %d", mask, n, want)
		}
	}
}

func TestShufflesWithLanesOff(t *testing.T) {
	t.Parallel()
	l := []uint32{10, 11, 12, 13}
	for _, e := range []struct {
		from []int
		mask int
		want []uint32
	}{
		{[]int{3, 2, 1, 0}, 15, []uint32{13, 12, 11, 10}},
		{[]int{1, 1, 1, 1}, 15, []uint32{11, 11, 11, 11}},
		{[]int{1, 1, 1, 1}, 13, []uint32{0, 11, 0, 0}},   // from one that is off
		{[]int{3, 2, 1, 0}, 9, []uint32{13, 11, 12, 10}}, // lanes off keep their word
		{[]int{3, 2, 1, 0}, 5, []uint32{0, 11, 0, 13}},
		{[]int{-1, 4, 16, math.MinInt64}, 15, []uint32{0, 0, 0, 0}}, // from ones that aren't there
		{[]int{-1, 4, math.MaxInt64, 1 << 32}, 0, []uint32{10, 11, 12, 13}},
		{[]int{-4, 1 << 32, 2, 63}, 15, []uint32{0, 0, 12, 0}},
	} {
		got, ok := impl.ShuffleLanes(l, e.from, e.mask)
		if !ok || !slices.Equal(got, e.want) {
			t.Errorf("ShuffleLanes(%d, %d, %d) = %d, %v, want %d", l, e.from, e.mask, got, ok, e.want)
		}
	}
}

func TestSumsOfWholesWrap(t *testing.T) {
	t.Parallel()
	l := []uint32{math.MaxUint32, 5, 1, minus, minus}
	for mask, want := range map[int]uint32{0: 0, 1: math.MaxUint32, 2: 5, 5: 0, 7: 5, 24: 0, 31: 5, 16: minus} {
		if got, ok := impl.SumWholes(l, mask); !ok || got != want {
			t.Errorf("SumWholes(%d, %d) = %d, %v, want %d", l, mask, got, ok, want)
		}
	}
	for mask, want := range map[int][]uint32{
		0:  {0, 0, 0, 0, 0},
		31: {0, math.MaxUint32, 4, 5, minus + 5},
		29: {0, 0, math.MaxUint32, 0, minus},
		24: {0, 0, 0, 0, minus},
	} {
		if got, ok := impl.PrefixLanes(l, mask); !ok || !slices.Equal(got, want) {
			t.Errorf("PrefixLanes(%d, %d) = %d, %v, want %d", l, mask, got, ok, want)
		}
	}
}

func TestSumsOfFloatsByHalves(t *testing.T) {
	t.Parallel()
	far := uint32(0x4b800000) // 2^24: one 1 more is lost upon it, two are not
	for _, e := range []struct {
		l    []uint32
		mask int
		want uint32
	}{
		{nil, 0, 0},
		{[]uint32{one, one}, 0, 0},
		{[]uint32{minus, one}, 0, 0},
		{[]uint32{minus}, 1, minus},
		{[]uint32{farNaN}, 1, farNaN}, // of one it
		{[]uint32{one, farNaN, one}, 2, farNaN},
		{[]uint32{one, farNaN}, 3, impl.TheNaN},
		{[]uint32{minus, minus}, 3, minus},
		{[]uint32{minus, 0}, 3, 0},
		{[]uint32{one, one | minus}, 3, 0},
		{[]uint32{infinite, infinite | minus}, 3, impl.TheNaN},
		{[]uint32{infinite, infinite | minus}, 2, infinite | minus},
		{[]uint32{greatest, greatest}, 3, infinite},
		{[]uint32{far, one, one}, 7, far + 1}, // a and (b and c)
		{[]uint32{one, one, far}, 7, far},     // c swallows b, then a
		{[]uint32{far, one, one, one}, 15, far + 1},
		{[]uint32{far, one, one, one, one}, 31, far + 2},            // (a b) and (c (d e)): 2^24 and 3
		{[]uint32{one, one, one, far | minus, far}, 31, 0x40400000}, // 2 and (1 and 0)
		{[]uint32{far, greatest, one, one}, 13, far + 1},            // one lane off: as of three
		{[]uint32{far, one, greatest, one}, 11, far + 1},
	} {
		if got, ok := impl.SumFloats(e.l, e.mask); !ok || got != e.want {
			t.Errorf("SumFloats(%#x, %d) = %#x, %v, want %#x", e.l, e.mask, got, ok, e.want)
		}
	}
}

func TestReducedLanes(t *testing.T) {
	t.Parallel()
	l := []uint32{5, math.MaxUint32, minus, minus - 1, 3}
	for _, e := range []struct {
		mask int
		want [5]uint32 // by op 1, 2, 3, 4, 5
	}{
		{1, [5]uint32{5, 5, 5, 5, 5}},
		{4, [5]uint32{minus, minus, minus, minus, minus}},
		{3, [5]uint32{math.MaxUint32, 5, 5, math.MaxUint32, math.MaxUint32 - 5}},
		{12, [5]uint32{minus, minus - 1, 0, math.MaxUint32, math.MaxUint32}},
		{6, [5]uint32{minus, math.MaxUint32, minus, math.MaxUint32, minus - 1}},
		{17, [5]uint32{3, 5, 1, 7, 6}},
		{31, [5]uint32{minus, minus - 1, 0, math.MaxUint32, 6}},
	} {
		for i, want := range e.want {
			if got, ok := impl.ReduceLanes(l, e.mask, i+1); !ok || got != want {
				t.Errorf("ReduceLanes(%d, %d, %d) = %d, %v, want %d", l, e.mask, i+1, got, ok, want)
			}
		}
	}
	for _, op := range []int{0, 6, -1, 7, -5, 1 << 32, 1<<32 + 1, math.MinInt64, math.MaxInt64} {
		if got, ok := impl.ReduceLanes(l, 31, op); ok || got != 0 {
			t.Errorf("op %d: %d, %v", op, got, ok)
		}
	}
	for op := 1; op <= 5; op++ {
		if got, ok := impl.ReduceLanes(l, 0, op); ok || got != 0 {
			t.Errorf("no lane on, op %d: %d, %v", op, got, ok)
		}
	}
}
