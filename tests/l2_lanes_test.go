package tests

import (
	"math"
	"slices"
	"testing"

	"loop.example/g00053/impl"
)

func TestConstantsOfLanes(t *testing.T) {
	t.Parallel()
	if impl.MaxLanes != 16 {
		t.Error("MaxLanes")
	}
}

func heldCws(t *testing.T, a, b impl.Cw) {
	t.Helper()
	if got, want := impl.AddCw(a, b), wantAddCw(a, b); got != want {
		t.Errorf("AddCw(%#x, %#x) = %#x, want %#x", a, b, got, want)
	}
	if got, want := impl.MulCw(a, b), wantMulCw(a, b); got != want {
		t.Errorf("MulCw(%#x, %#x) = %#x, want %#x", a, b, got, want)
	}
}

func TestSumsAndProductsOfComplexNumbers(t *testing.T) {
	t.Parallel()
	c := newChance(21)
	l := fewWords()
	for _, re := range l {
		for _, im := range l {
			a := impl.Cw{Re: re, Im: im}
			heldCws(t, a, impl.Cw{Re: l[c.Intn(len(l))], Im: l[c.Intn(len(l))]})
			heldCws(t, a, c.cw())
			heldCws(t, a, a)
		}
	}
	for range 3000 {
		heldCws(t, c.cw(), c.cw())
	}
}

// The parts of these products nearly cancel, so that one rounding less shows.
func TestProductsThatCancel(t *testing.T) {
	t.Parallel()
	c := newChance(22)
	for range 3000 {
		a := c.cw()
		heldCws(t, a, impl.Cw{Re: a.Im, Im: a.Re})
		heldCws(t, a, impl.Cw{Re: a.Im + 1, Im: a.Re})
		heldCws(t, a, impl.Cw{Re: a.Re, Im: a.Im ^ minus})
	}
}

func TestTurnsOfComplexNumbers(t *testing.T) {
	t.Parallel()
	c := newChance(23)
	for range 500 {
		a := c.cw()
		for quarters := -9; quarters <= 9; quarters++ {
			want := wantTurn(a, (quarters+12)%4)
			if got := impl.TurnCw(a, quarters); got != want {
				t.Errorf("TurnCw(%#x, %d) = %#x, want %#x", a, quarters, got, want)
			}
		}
	}
}

func heldWaves(t *testing.T, l []impl.Cw) {
	t.Helper()
	if got, want := impl.WavesCw(l), wantWaves(l); !slices.Equal(got, want) {
		t.Errorf("WavesCw(%#x)\n= %#x\nwant %#x", l, got, want)
	}
}

func TestWavesByTheirWords(t *testing.T) {
	t.Parallel()
	c := newChance(24)
	edges := moreWords()
	for _, n := range []int{1, 2, 4, 8} {
		for range 20000 {
			l := c.cws(n)
			heldWaves(t, l)
			i := c.Intn(n)
			l[i].Re = edges[c.Intn(len(edges))]
			heldWaves(t, l)
			l[c.Intn(n)].Im = edges[c.Intn(len(edges))]
			heldWaves(t, l)
		}
		for range 5000 {
			l := make([]impl.Cw, n)
			for i := range l {
				l[i] = impl.Cw{Re: edges[c.Intn(len(edges))], Im: edges[c.Intn(len(edges))]}
			}
			heldWaves(t, l)
		}
	}
}

// Near to 1 nothing is infinite, and each rounding shows.
func TestWavesNearToOne(t *testing.T) {
	t.Parallel()
	c := newChance(25)
	for _, n := range []int{2, 4, 8} {
		for range 20000 {
			l := make([]impl.Cw, n)
			for i := range l {
				l[i] = impl.Cw{Re: one + uint32(c.Intn(1<<24)), Im: (one + uint32(c.Intn(1<<24))) | uint32(c.Intn(2))<<31}
			}
			heldWaves(t, l)
		}
	}
}

func TestMasksThatAreGood(t *testing.T) {
	t.Parallel()
	for n := -3; n <= 20; n++ {
		for _, mask := range []int{-1 << 32, -65536, -2, -1, 0, 1, 2, 3, 7, 8, 255, 256, 32767, 32768, 65534, 65535, 65536, 131071, 1 << 32, 1<<32 + 1} {
			want := n >= 0 && n <= 16 && mask >= 0 && float64(mask) <= math.Exp2(float64(n))-1
			if impl.GoodMask(n, mask) != want {
				t.Errorf("GoodMask(%d, %d) is not %v", n, mask, want)
			}
		}
	}
}

func TestBallots(t *testing.T) {
	t.Parallel()
	for mask := range 65536 {
		lanes := make([]bool, 16)
		for i := range lanes {
			lanes[i] = isOn(mask, i)
		}
		if got := impl.BallotOf(lanes); got != mask {
			t.Errorf("BallotOf of the lanes of %d = %d", mask, got)
		}
		n := 16
		for n > 0 && !lanes[n-1] {
			n--
		}
		if got := impl.BallotOf(lanes[:n]); got != mask {
			t.Errorf("BallotOf of the %d first lanes of %d = %d", n, mask, got)
		}
	}
}

func TestFirstLanes(t *testing.T) {
	t.Parallel()
	for mask := 1; mask < 65536; mask++ {
		want := 0
		for !isOn(mask, want) {
			want++
		}
		if got := impl.FirstLane(mask); got != want {
			t.Errorf("FirstLane(%d) = %d, want %d", mask, got, want)
		}
	}
}

// heldLanes: all that is reckoned of lanes and a good mask.
func heldLanes(t *testing.T, l []uint32, from []int, mask int) {
	t.Helper()
	if got, ok := impl.ShuffleLanes(l, from, mask); !ok || !slices.Equal(got, wantShuffle(l, from, mask)) {
		t.Errorf("ShuffleLanes(%d, %d, %d) = %d, %v, want %d", l, from, mask, got, ok, wantShuffle(l, from, mask))
	}
	if got, ok := impl.PrefixLanes(l, mask); !ok || !slices.Equal(got, wantPrefix(l, mask)) {
		t.Errorf("PrefixLanes(%d, %d) = %d, %v, want %d", l, mask, got, ok, wantPrefix(l, mask))
	}
	if got, ok := impl.SumWholes(l, mask); !ok || got != wantWholes(l, mask) {
		t.Errorf("SumWholes(%d, %d) = %d, %v, want %d", l, mask, got, ok, wantWholes(l, mask))
	}
	if got, ok := impl.SumFloats(l, mask); !ok || got != wantFloats(l, mask) {
		t.Errorf("SumFloats(%#x, %d) = %#x, %v, want %#x", l, mask, got, ok, wantFloats(l, mask))
	}
	for op := 1; op <= 5; op++ {
		want := uint32(0)
		if mask != 0 {
			want = wantReduced(l, mask, op)
		}
		if got, ok := impl.ReduceLanes(l, mask, op); ok != (mask != 0) || got != want {
			t.Errorf("ReduceLanes(%d, %d, %d) = %d, %v, want %d", l, mask, op, got, ok, want)
		}
	}
}

func TestLanesOfEachMask(t *testing.T) {
	t.Parallel()
	c := newChance(26)
	for n := 0; n <= 7; n++ {
		for mask := range 1 << n {
			for range 4 {
				heldLanes(t, c.words(n), c.places(n), mask)
			}
		}
	}
	for n := 8; n <= 16; n++ {
		for range 200 {
			heldLanes(t, c.words(n), c.places(n), c.Intn(1<<n))
		}
		heldLanes(t, c.words(n), c.places(n), 0)
		heldLanes(t, c.words(n), c.places(n), 1<<n-1)
		heldLanes(t, c.words(n), c.places(n), 1<<(n-1))
	}
}
