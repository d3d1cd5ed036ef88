package tests

import (
	"math"
	"math/big"
	"testing"

	"loop.example/g00053/impl"
)

// held: what one call answered in the five modes, against what is asked for.
func held(t *testing.T, what string, want [5]uint32, got func(mode int) uint32, args ...uint32) {
	t.Helper()
	for i, mode := range allModes {
		if w := got(mode); w != want[i] {
			t.Errorf("%s(%#x, %s) = %#x, want %#x", what, args, modeNames[i], w, want[i])
		}
	}
}

func heldPair(t *testing.T, a, b uint32) {
	t.Helper()
	held(t, "AddWords", wantAdd(a, b), func(m int) uint32 { return impl.AddWords(a, b, m) }, a, b)
	held(t, "MulWords", wantMul(a, b), func(m int) uint32 { return impl.MulWords(a, b, m) }, a, b)
	held(t, "DivWords", wantDiv(a, b), func(m int) uint32 { return impl.DivWords(a, b, m) }, a, b)
}

func heldFused(t *testing.T, a, b, c uint32) {
	t.Helper()
	held(t, "FuseWords", wantFuse(a, b, c), func(m int) uint32 { return impl.FuseWords(a, b, c, m) }, a, b, c)
}

func heldOne(t *testing.T, a uint32) {
	t.Helper()
	held(t, "RootWord", wantRoot(a), func(m int) uint32 { return impl.RootWord(a, m) }, a)
	held(t, "HalfOf", wantHalf(a), func(m int) uint32 { return impl.HalfOf(a, m) }, a)
	want := wantWhole(a)
	for i, mode := range allModes {
		if n := impl.WholeOf(a, mode); n != want[i] {
			t.Errorf("WholeOf(%#x, %s) = %d, want %d", a, modeNames[i], n, want[i])
		}
	}
}

func heldNumber(t *testing.T, num, power int) {
	t.Helper()
	x := new(big.Rat).SetInt64(int64(num))
	scale := new(big.Rat).SetInt(new(big.Int).Lsh(big.NewInt(1), uint(max(power, -power))))
	if power < 0 {
		x.Quo(x, scale)
	} else {
		x.Mul(x, scale)
	}
	want := alike(0)
	if num != 0 {
		want = wordFloats.rounded(x)
	}
	for i, mode := range allModes {
		if w := impl.RoundNumber(num, power, mode); w != want[i] {
			t.Errorf("RoundNumber(%d, %d, %s) = %#x, want %#x", num, power, modeNames[i], w, want[i])
		}
	}
}

func TestConstantsOfBits(t *testing.T) {
	t.Parallel()
	if impl.NearEven != 0 || impl.NearAway != 1 || impl.ToZero != 2 || impl.ToUp != 3 || impl.ToDown != 4 {
		t.Error("modes")
	}
	if impl.TheNaN != 0x7fc00000 || impl.MaxTake != 40 {
		t.Error("TheNaN, MaxTake")
	}
}

func TestGoodMode(t *testing.T) {
	t.Parallel()
	for _, mode := range allModes {
		if !impl.GoodMode(mode) {
			t.Errorf("mode %d", mode)
		}
	}
	for _, mode := range badModes {
		if impl.GoodMode(mode) {
			t.Errorf("mode %d", mode)
		}
	}
}

func TestPairsOfWords(t *testing.T) {
	t.Parallel()
	l := moreWords()
	for _, a := range l {
		for _, b := range l {
			heldPair(t, a, b)
		}
	}
	c := newChance(1)
	for range 20000 {
		heldPair(t, c.word(), c.word())
	}
}

func TestFusedWords(t *testing.T) {
	t.Parallel()
	l := fewWords()
	for _, a := range l {
		for _, b := range l {
			for _, c := range l {
				heldFused(t, a, b, c)
			}
		}
	}
	c := newChance(2)
	for range 20000 {
		a, b := c.word(), c.word()
		heldFused(t, a, b, c.word())
		// near to minus the product: nearly all cancels
		near := impl.MulWords(a, b, impl.NearEven) ^ minus
		heldFused(t, a, b, near)
		heldFused(t, a, b, near+uint32(c.Intn(3))-1)
		heldPair(t, a, a^minus+uint32(c.Intn(5))-2)
	}
}

func TestSingleWords(t *testing.T) {
	t.Parallel()
	for _, a := range moreWords() {
		heldOne(t, a)
	}
	c := newChance(3)
	for range 20000 {
		heldOne(t, c.word())
		heldOne(t, c.word()&^minus)
	}
}

// Squares, and what lies beside them, have roots that end, or nearly do.
func TestRootsOfSquares(t *testing.T) {
	t.Parallel()
	c := newChance(4)
	for range 3000 {
		a := 0x20000000 + uint32(c.Intn(0x3f000000))&^uint32(0xfff) // 12 bits: the square has 24
		square := impl.MulWords(a, a, impl.NearEven)
		if w := impl.RootWord(square, impl.ToDown); w != a || impl.RootWord(square, impl.ToUp) != a {
			t.Errorf("the root of the square of %#x is %#x", a, w)
		}
		heldOne(t, square-1)
		heldOne(t, square+1)
	}
}

func TestNumbersRounded(t *testing.T) {
	t.Parallel()
	nums := []int{0, 1, 2, 3, 5, 7, 1<<23 - 1, 1 << 23, 1<<24 - 1, 1 << 24, 1<<24 + 1, 1<<24 + 2, 1<<24 + 3,
		1<<25 - 1, 1<<25 + 1, 1<<25 + 2, 1<<25 + 3, 1<<25 + 6, 1<<53 + 1, 1<<62 + 1, 1<<62 + 1<<38, 1<<62 + 1<<38 + 1, math.MaxInt64, math.MaxInt64 - 1<<38}
	powers := []int{-400, -399, -300, -214, -213, -212, -200, -190, -176, -175, -174, -173, -172, -152, -151, -150, -149, -148, -127, -126, -125, -64, -1, 0, 1, 64, 65, 66, 101, 102, 103, 104, 105, 126, 127, 128, 200, 399, 400}
	for _, num := range nums {
		for _, power := range powers {
			heldNumber(t, num, power)
			heldNumber(t, -num, power)
		}
	}
	for _, power := range powers {
		heldNumber(t, math.MinInt64, power)
	}
	c := newChance(5)
	for range 20000 {
		heldNumber(t, int(c.Uint64())>>c.Intn(64), c.Intn(801)-400)
		heldNumber(t, int(c.Uint64())>>c.Intn(64), -200+c.Intn(60))
	}
}

// By NearEven the machine's own floats are a second judge, of many words.
func TestNearEvenAsTheMachine(t *testing.T) {
	t.Parallel()
	c := newChance(6)
	for range 400000 {
		a, b := c.word(), c.word()
		x, y := math.Float32frombits(a), math.Float32frombits(b)
		for _, p := range [...]struct {
			what      string
			got, want uint32
		}{
			{"+", impl.AddWords(a, b, impl.NearEven), bitsOf(x + y)},
			{"*", impl.MulWords(a, b, impl.NearEven), bitsOf(x * y)},
			{"/", impl.DivWords(a, b, impl.NearEven), bitsOf(x / y)},
			{"root", impl.RootWord(a, impl.NearEven), bitsOf(float32(math.Sqrt(float64(x))))},
		} {
			if p.got != p.want {
				t.Fatalf("%#x %s %#x = %#x, want %#x", a, p.what, b, p.got, p.want)
			}
		}
	}
}

func bitsOf(f float32) uint32 {
	if f != f {
		return impl.TheNaN
	}
	return math.Float32bits(f)
}

func TestCmpWords(t *testing.T) {
	t.Parallel()
	rising := []uint32{infinite | minus, greatest | minus, one | minus, 0x800000 | minus, 1 | minus, 0, 1, 2, 0x7fffff, 0x800000, one - 1, one, one + 1, greatest, infinite}
	for i, a := range rising {
		for k, b := range rising {
			want := 0
			if i < k {
				want = -1
			} else if i > k {
				want = 1
			}
			if n := impl.CmpWords(a, b); n != want {
				t.Errorf("CmpWords(%#x, %#x) = %d, want %d", a, b, n, want)
			}
		}
	}
	for _, a := range moreWords() {
		for _, nan := range []uint32{impl.TheNaN, impl.TheNaN | minus, infinite + 1, infinite + 1 | minus, 0x7fffffff, 0xffffffff} {
			if impl.CmpWords(a, nan) != 2 || impl.CmpWords(nan, a) != 2 {
				t.Errorf("CmpWords of %#x and %#x", a, nan)
			}
		}
	}
	if impl.CmpWords(0, minus) != 0 || impl.CmpWords(minus, 0) != 0 {
		t.Error("noughts are equal")
	}
}

func TestHalvesAround(t *testing.T) {
	t.Parallel()
	for h := uint32(0); h < 0x7c00; h++ {
		low := impl.WordOfHalf(h)
		high := impl.RoundNumber(65536, 0, impl.ToZero)
		if h+1 < 0x7c00 {
			high = impl.WordOfHalf(h + 1)
		}
		middle := impl.MulWords(impl.AddWords(low, high, impl.ToZero), 0x3f000000, impl.ToZero)
		for _, w := range []uint32{low, low + 1, middle - 1, middle, middle + 1, high - 1} {
			held(t, "HalfOf", wantHalf(w), func(m int) uint32 { return impl.HalfOf(w, m) }, w)
			held(t, "HalfOf", wantHalf(w|minus), func(m int) uint32 { return impl.HalfOf(w|minus, m) }, w|minus)
		}
		if wordValue(low).Cmp(halfValue(h)) != 0 {
			t.Errorf("WordOfHalf(%#x) = %#x", h, low)
		}
	}
}
