package tests

import (
	"math"
	"testing"

	"loop.example/g00053/impl"
)

var badModes = [...]int{-1, 5, 6, 32, 256, 1 << 32, 1<<32 + 1, math.MinInt64, math.MinInt64 + 4, math.MaxInt64}

// somePairs: the edges, each with each, and pairs of any words.
func somePairs(each func(a, b uint32)) {
	l := moreWords()
	for _, a := range l {
		for _, b := range l {
			each(a, b)
		}
	}
	c := newChance(11)
	for range 50000 {
		each(c.word(), c.word())
	}
}

// Promise 1: sums and products do not hang on their order.
func TestPromise1Order(t *testing.T) {
	t.Parallel()
	c := newChance(12)
	somePairs(func(a, b uint32) {
		w := c.word()
		for _, mode := range allModes {
			if impl.AddWords(a, b, mode) != impl.AddWords(b, a, mode) {
				t.Errorf("the sum of %#x and %#x by %s", a, b, modeNames[mode])
			}
			if impl.MulWords(a, b, mode) != impl.MulWords(b, a, mode) {
				t.Errorf("the product of %#x and %#x by %s", a, b, modeNames[mode])
			}
			if impl.FuseWords(a, b, w, mode) != impl.FuseWords(b, a, w, mode) {
				t.Errorf("%#x and %#x fused with %#x by %s", a, b, w, modeNames[mode])
			}
		}
	})
}

// liesAround: what is rounded down is not above what is rounded up, and each
// other rounding is one of the two.
func liesAround(t *testing.T, what string, got func(mode int) uint32) {
	t.Helper()
	down, up := got(impl.ToDown), got(impl.ToUp)
	if down == impl.TheNaN || up == impl.TheNaN {
		held(t, what, alike(impl.TheNaN), got)
		return
	}
	if n := impl.CmpWords(down, up); n != 0 && n != -1 {
		t.Errorf("%s: down %#x, up %#x", what, down, up)
	}
	for i, mode := range allModes {
		if w := got(mode); w != down && w != up {
			t.Errorf("%s: %s %#x is not down %#x nor up %#x", what, modeNames[i], w, down, up)
		}
	}
	towards := up
	if down&^minus < up&^minus {
		towards = down
	}
	if w := got(impl.ToZero); impl.CmpWords(w, towards) != 0 {
		t.Errorf("%s: ToZero %#x, down %#x, up %#x", what, w, down, up)
	}
}

// Promise 1: roundings lie around.
func TestPromise1Around(t *testing.T) {
	t.Parallel()
	c := newChance(13)
	somePairs(func(a, b uint32) {
		liesAround(t, "a sum", sum(a, b))
		liesAround(t, "a product", product(a, b))
		liesAround(t, "a quotient", quotient(a, b))
		liesAround(t, "fused", fused(a, b, c.word()))
		liesAround(t, "a root", root(a))
		liesAround(t, "a half", func(m int) uint32 { return impl.WordOfHalf(impl.HalfOf(a, m)) })
		num, power := int(c.Uint64())>>c.Intn(64), c.Intn(801)-400
		liesAround(t, "a number", number(num, power))
		liesAroundWhole(t, a)
	})
}

func liesAroundWhole(t *testing.T, a uint32) {
	t.Helper()
	down, up := impl.WholeOf(a, impl.ToDown), impl.WholeOf(a, impl.ToUp)
	if down > up || up > down+1 {
		t.Errorf("WholeOf(%#x): down %d, up %d", a, down, up)
	}
	for i, mode := range allModes {
		if n := impl.WholeOf(a, mode); n != down && n != up {
			t.Errorf("WholeOf(%#x, %s) = %d, down %d, up %d", a, modeNames[i], n, down, up)
		}
	}
}

// Roundings of a number and of it with the other sign mirror each other.
func TestPromise1Mirrored(t *testing.T) {
	t.Parallel()
	mirror := [...]int{impl.NearEven, impl.NearAway, impl.ToZero, impl.ToDown, impl.ToUp}
	somePairs(func(a, b uint32) {
		for _, mode := range allModes {
			p := impl.MulWords(a, b, mode)
			if p != impl.TheNaN && impl.MulWords(a^minus, b, mirror[mode]) != p^minus {
				t.Errorf("%#x times %#x by %s", a, b, modeNames[mode])
			}
			s := impl.AddWords(a, b, mode)
			if s != impl.TheNaN && impl.CmpWords(impl.AddWords(a^minus, b^minus, mirror[mode]), s^minus) != 0 {
				t.Errorf("%#x and %#x by %s", a, b, modeNames[mode])
			}
		}
	})
}

// Promise 1: what is fused with 1 is the sum.
func TestPromise1FusedWithOne(t *testing.T) {
	t.Parallel()
	somePairs(func(a, b uint32) {
		for i, mode := range allModes {
			s := impl.AddWords(a, b, mode)
			if impl.FuseWords(a, one, b, mode) != s || impl.FuseWords(one, a, b, mode) != s {
				t.Errorf("%#x fused with 1 and %#x by %s", a, b, modeNames[i])
			}
			if impl.FuseWords(a, one|minus, b, mode) != impl.AddWords(a^minus, b, mode) {
				t.Errorf("%#x fused with -1 and %#x by %s", a, b, modeNames[i])
			}
		}
	})
}

// Promise 1: what is fused with a nought is the product; where that is 0 itself
// the nought of the other sign makes it a sum of two noughts.
func TestPromise1FusedWithNoughts(t *testing.T) {
	t.Parallel()
	somePairs(func(a, b uint32) {
		for i, mode := range allModes {
			p := impl.MulWords(a, b, mode)
			sign := (a ^ b) & minus
			if w := impl.FuseWords(a, b, sign, mode); w != p {
				t.Errorf("%#x %#x fused with the nought of its sign by %s: %#x, not %#x", a, b, modeNames[i], w, p)
			}
			if a&^minus == 0 || b&^minus == 0 {
				p = impl.AddWords(p, sign^minus, mode)
			}
			if w := impl.FuseWords(a, b, sign^minus, mode); w != p {
				t.Errorf("%#x %#x fused with the other nought by %s: %#x, not %#x", a, b, modeNames[i], w, p)
			}
			if a < infinite {
				if w := impl.FuseWords(a, 0, b, mode); w != impl.AddWords(0, b, mode) {
					t.Errorf("%#x times 0 and %#x by %s: %#x", a, b, modeNames[i], w)
				}
				if w := impl.FuseWords(a, minus, b, mode); w != impl.AddWords(minus, b, mode) {
					t.Errorf("%#x times -0 and %#x by %s: %#x", a, b, modeNames[i], w)
				}
			}
		}
	})
}

// Promise 1: halves come back.
func TestPromise1HalvesComeBack(t *testing.T) {
	t.Parallel()
	for h := range uint32(65536) {
		want := h
		if h&0x7fff > 0x7c00 {
			want = 32256
		}
		for i, mode := range allModes {
			if got := impl.HalfOf(impl.WordOfHalf(h), mode); got != want {
				t.Errorf("the half %#x comes back as %#x by %s", h, got, modeNames[i])
			}
		}
	}
}

// Promise 25: modes that are none.
func TestPromise25Modes(t *testing.T) {
	t.Parallel()
	for _, mode := range badModes {
		for _, a := range moreWords() {
			for _, b := range fewWords() {
				if impl.AddWords(a, b, mode) != 0 || impl.MulWords(a, b, mode) != 0 || impl.DivWords(a, b, mode) != 0 || impl.FuseWords(a, b, a, mode) != 0 {
					t.Errorf("mode %d with %#x and %#x", mode, a, b)
				}
			}
			if impl.RootWord(a, mode) != 0 || impl.HalfOf(a, mode) != 0 || impl.WholeOf(a, mode) != 0 {
				t.Errorf("mode %d with %#x", mode, a)
			}
		}
		for _, num := range []int{0, 1, -1, math.MinInt64, math.MaxInt64} {
			if impl.RoundNumber(num, 0, mode) != 0 {
				t.Errorf("mode %d with the number %d", mode, num)
			}
		}
	}
}

// Promise 25: powers outside -400..400.
func TestPromise25Powers(t *testing.T) {
	t.Parallel()
	nums := []int{0, 1, -1, 3, math.MinInt64, math.MaxInt64}
	for _, power := range []int{-401, 401, -402, 1000, -1000, 1 << 32, -1 << 32, math.MinInt64, math.MaxInt64} {
		for _, num := range nums {
			held(t, "RoundNumber of a power outside", alike(0), number(num, power))
		}
	}
	for _, mode := range allModes {
		if impl.RoundNumber(1, 400, mode) == 0 || impl.RoundNumber(-1, -400, mode) == 0 {
			t.Errorf("a power at its bound by %s", modeNames[mode])
		}
	}
}

// Promise 25: words that are no halves.
func TestPromise25Halves(t *testing.T) {
	t.Parallel()
	for _, h := range []uint32{65536, 65537, 65536 + 0x3c00, 65536 + 0x7c00, 1 << 17, one, infinite, impl.TheNaN, minus, math.MaxUint32} {
		if w := impl.WordOfHalf(h); w != 0 {
			t.Errorf("WordOfHalf(%#x) = %#x, want 0", h, w)
		}
	}
}

// Promise 25: the least and the greatest int, as what they are.
func TestPromise25Ints(t *testing.T) {
	t.Parallel()
	heldEdges(t, []edge{
		{"the least int", number(math.MinInt64, 0), alike(0xdf000000)},
		{"the greatest int", number(math.MaxInt64, 0), [5]uint32{0x5f000000, 0x5f000000, 0x5effffff, 0x5f000000, 0x5effffff}},
		{"the least int but one", number(math.MinInt64+1, 0), [5]uint32{0xdf000000, 0xdf000000, 0xdeffffff, 0xdeffffff, 0xdf000000}},
		{"the least int, power -400", number(math.MinInt64, -400), [5]uint32{minus, minus, minus, minus, 1 | minus}},
		{"the least int, power -212", number(math.MinInt64, -212), alike(1 | minus)},
		{"the least int, power 64", number(math.MinInt64, 64), alike(0xff000000)},
		{"the least int, power 65", number(math.MinInt64, 65), [5]uint32{0xff800000, 0xff800000, 0xff7fffff, 0xff7fffff, 0xff800000}},
	})
}
