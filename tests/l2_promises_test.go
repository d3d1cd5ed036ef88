package tests

import (
	"math"
	"slices"
	"testing"

	"loop.example/g00053/impl"
)

// smallWholes: complex numbers with whole parts from -9 to 9.
func (c chance) smallWholes(n int) []impl.Cw {
	l := make([]impl.Cw, n)
	for i := range l {
		l[i].Re = impl.RoundNumber(c.Intn(19)-9, 0, impl.NearEven)
		l[i].Im = impl.RoundNumber(c.Intn(19)-9, 0, impl.NearEven)
	}
	return l
}

// apart: how far a word is from a whole number of times another one.
func apart(w uint32, times int, of uint32) float64 {
	return math.Abs(float(w) - float64(times)*float(of))
}

// Promise 2: waves twice are turned round, times how many. Of 8 the factors of
// the eighths are rounded, so their waves are only near.
func TestPromise2WavesTwice(t *testing.T) {
	t.Parallel()
	c := newChance(31)
	for n, near := range map[int]float64{1: 0, 2: 0, 4: 0, 8: 1.0 / 1024} {
		for range 2000 {
			l := c.smallWholes(n)
			twice := impl.WavesCw(impl.WavesCw(l))
			if len(twice) != n {
				t.Fatalf("waves of %d numbers are %d", n, len(twice))
			}
			for k, w := range twice {
				from := l[(n-k)%n]
				if apart(w.Re, n, from.Re) > near || apart(w.Im, n, from.Im) > near {
					t.Errorf("number %d of the waves of the waves of %#x is %#x", k, l, w)
				}
			}
		}
	}
}

// Waves of 8 have the numbers turned round themselves, once they are rounded.
func TestPromise2WavesOfEight(t *testing.T) {
	t.Parallel()
	c := newChance(32)
	for range 2000 {
		l := c.smallWholes(8)
		for k, w := range impl.WavesCw(impl.WavesCw(l)) {
			from := l[(8-k)%8]
			re, im := impl.WholeOf(w.Re, impl.NearEven), impl.WholeOf(w.Im, impl.NearEven)
			if re != 8*impl.WholeOf(from.Re, impl.NearEven) || im != 8*impl.WholeOf(from.Im, impl.NearEven) {
				t.Errorf("number %d of the waves of the waves of %#x is %d, %d", k, l, re, im)
			}
		}
	}
}

// Promise 2: turns add up, also where the sum of the quarters wraps.
func TestPromise2TurnsAddUp(t *testing.T) {
	t.Parallel()
	c := newChance(33)
	quarters := []int{-1 << 32, -9, -8, -7, -6, -5, -4, -3, -2, -1, 0, 1, 2, 3, 4, 5, 6, 7, 8, 9, 1 << 32, math.MinInt64, math.MinInt64 + 3, math.MaxInt64, math.MaxInt64 - 1}
	numbers := []impl.Cw{cwOf(0, 0), cwOf(minus, 0), cwOf(0, minus), cwOf(impl.TheNaN, farNaN), cwOf(infinite, one)}
	for range 100 {
		numbers = append(numbers, c.cw())
	}
	for _, a := range numbers {
		for _, p := range quarters {
			for _, q := range quarters {
				if got, want := impl.TurnCw(impl.TurnCw(a, p), q), impl.TurnCw(a, p+q); got != want {
					t.Errorf("%#x turned by %d and %d = %#x, want %#x", a, p, q, got, want)
				}
			}
			if impl.TurnCw(impl.TurnCw(a, p), -p) != a {
				t.Errorf("%#x turned by %d does not come back", a, p)
			}
		}
	}
}

// A turn is the product with what (1, 0) is turned to, noughts aside.
func TestPromise2TurnsAreProducts(t *testing.T) {
	t.Parallel()
	c := newChance(34)
	for range 3000 {
		a := impl.Cw{Re: c.word(), Im: c.word()}
		if !finite(a.Re, a.Im) {
			continue
		}
		for quarters := -5; quarters <= 5; quarters++ {
			turned := impl.TurnCw(a, quarters)
			product := impl.MulCw(a, impl.TurnCw(cwOf(one, 0), quarters))
			if impl.CmpWords(turned.Re, product.Re) != 0 || impl.CmpWords(turned.Im, product.Im) != 0 {
				t.Errorf("%#x turned by %d is %#x, the product is %#x", a, quarters, turned, product)
			}
		}
	}
}

// Promise 2: what is ahead, and the last one, are the sum.
func TestPromise2AheadAndTheLast(t *testing.T) {
	t.Parallel()
	c := newChance(35)
	for n := 1; n <= 16; n++ {
		for range 500 {
			l := c.words(n)
			mask := 1 + c.Intn(1<<n-1)
			last := n - 1
			for !isOn(mask, last) {
				last--
			}
			ahead, ok := impl.PrefixLanes(l, mask)
			sum, good := impl.SumWholes(l, mask)
			if !ok || !good || len(ahead) != n || ahead[last]+l[last] != sum {
				t.Errorf("lanes %d by %d: ahead %d, the sum %d", l, mask, ahead, sum)
			}
		}
	}
}

// Promise 25: masks that are not good for the lanes, and lanes that are too many.
func TestPromise25Masks(t *testing.T) {
	t.Parallel()
	c := newChance(36)
	for n := 0; n <= 20; n++ {
		masks := append([]int{1 << n, 1<<n + 1}, badMasks[:]...)
		if n > 16 {
			masks = append(masks, 0, 1, 3, 65535)
		}
		for _, mask := range masks {
			refused(t, c.words(n), make([]int, n), mask)
		}
	}
	refused(t, nil, nil, 1)
	refused(t, nil, nil, -1)
	refused(t, make([]uint32, 100), make([]int, 100), 0)
}

// refused: everything that takes lanes and a mask gives the zero answer.
func refused(t *testing.T, l []uint32, from []int, mask int) {
	t.Helper()
	if got, ok := impl.ShuffleLanes(l, from, mask); ok || len(got) != 0 {
		t.Errorf("ShuffleLanes of %d lanes by %d: %d, %v", len(l), mask, got, ok)
	}
	if got, ok := impl.PrefixLanes(l, mask); ok || len(got) != 0 {
		t.Errorf("PrefixLanes of %d lanes by %d: %d, %v", len(l), mask, got, ok)
	}
	if got, ok := impl.SumWholes(l, mask); ok || got != 0 {
		t.Errorf("SumWholes of %d lanes by %d: %d, %v", len(l), mask, got, ok)
	}
	if got, ok := impl.SumFloats(l, mask); ok || got != 0 {
		t.Errorf("SumFloats of %d lanes by %d: %d, %v", len(l), mask, got, ok)
	}
	for op := -1; op <= 6; op++ {
		if got, ok := impl.ReduceLanes(l, mask, op); ok || got != 0 {
			t.Errorf("ReduceLanes of %d lanes by %d, %d: %d, %v", len(l), mask, op, got, ok)
		}
	}
}

// Promise 25: from of another length than the lanes.
func TestPromise25OtherLengths(t *testing.T) {
	t.Parallel()
	for n := 0; n <= 16; n++ {
		for m := 0; m <= 20; m++ {
			got, ok := impl.ShuffleLanes(make([]uint32, n), make([]int, m), 0)
			if ok != (n == m) || len(got) != n && ok || len(got) != 0 && !ok {
				t.Errorf("%d lanes from %d: %d, %v", n, m, got, ok)
			}
		}
	}
	if got, ok := impl.ShuffleLanes([]uint32{7}, nil, 1); ok || len(got) != 0 {
		t.Error("from nil")
	}
}

// Promise 25: no lanes at all are lanes, too.
func TestPromise25NoLanes(t *testing.T) {
	t.Parallel()
	for _, l := range [][]uint32{nil, {}} {
		for _, from := range [][]int{nil, {}} {
			if got, ok := impl.ShuffleLanes(l, from, 0); !ok || len(got) != 0 {
				t.Errorf("ShuffleLanes: %d, %v", got, ok)
			}
		}
		if got, ok := impl.PrefixLanes(l, 0); !ok || len(got) != 0 {
			t.Errorf("PrefixLanes: %d, %v", got, ok)
		}
		if got, ok := impl.SumWholes(l, 0); !ok || got != 0 {
			t.Errorf("SumWholes: %d, %v", got, ok)
		}
		if got, ok := impl.SumFloats(l, 0); !ok || got != 0 {
			t.Errorf("SumFloats: %d, %v", got, ok)
		}
		for op := 0; op <= 6; op++ {
			if got, ok := impl.ReduceLanes(l, 0, op); ok || got != 0 {
				t.Errorf("ReduceLanes by %d: %d, %v", op, got, ok)
			}
		}
	}
}

// behind: a list with as much again behind its length.
func behind[T any](l []T) []T { return append(slices.Clone(l), l...)[:len(l)] }

// unchanged: whether a list is as it was, with what lies behind its length.
func unchanged[T comparable](l, was []T) bool {
	return slices.Equal(l, was) && slices.Equal(l[:2*len(l)], append(slices.Clone(was), was...))
}

// apartFrom: what a call answers of a list is new memory, each time.
func apartFrom[T, U comparable](t *testing.T, what string, l []T, call func([]T) []U) {
	t.Helper()
	given := behind(l)
	first, second := call(given), call(given)
	kept := slices.Clone(first)
	if !unchanged(given, l) || !slices.Equal(first, second) {
		t.Errorf("%s changes what it was given, or answers otherwise again", what)
	}
	var none U
	for i := range first[:cap(first)] {
		first[:cap(first)][i] = none
	}
	if !unchanged(given, l) || !slices.Equal(second, kept) {
		t.Errorf("the answer of %s shares its memory", what)
	}
	clear(given[:cap(given)])
	if !slices.Equal(second, kept) {
		t.Errorf("%s answers with the memory of what it was given", what)
	}
}

// Promise 25: nothing is written into an argument, and no answer shares its
// memory with one.
func TestPromise25NewMemory(t *testing.T) {
	t.Parallel()
	c := newChance(37)
	for _, n := range []int{1, 2, 4, 8} {
		l := c.cws(n)
		apartFrom(t, "WavesCw", l, impl.WavesCw)
	}
	for n := 1; n <= 16; n++ {
		l, from := c.words(n), c.places(n)
		for _, mask := range []int{0, 1, 1<<n - 1, 1 << (n - 1), c.Intn(1 << n)} {
			apartFrom(t, "ShuffleLanes", l, func(l []uint32) []uint32 { w, _ := impl.ShuffleLanes(l, from, mask); return w })
			apartFrom(t, "ShuffleLanes", from, func(from []int) []uint32 { w, _ := impl.ShuffleLanes(l, from, mask); return w })
			apartFrom(t, "PrefixLanes", l, func(l []uint32) []uint32 { w, _ := impl.PrefixLanes(l, mask); return w })
			apartFrom(t, "SumWholes", l, func(l []uint32) []uint32 { w, _ := impl.SumWholes(l, mask); return []uint32{w} })
			apartFrom(t, "SumFloats", l, func(l []uint32) []uint32 { w, _ := impl.SumFloats(l, mask); return []uint32{w} })
			for op := 1; op <= 5; op++ {
				apartFrom(t, "ReduceLanes", l, func(l []uint32) []uint32 { w, _ := impl.ReduceLanes(l, mask, op); return []uint32{w} })
			}
		}
		lanes := make([]bool, n)
		lanes[n-1] = true
		apartFrom(t, "BallotOf", lanes, func(l []bool) []int { return []int{impl.BallotOf(l)} })
	}
}
