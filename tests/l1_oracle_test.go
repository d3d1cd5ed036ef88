package tests

import (
	"math"
	"math/big"
	"math/rand"
	"sort"

	"loop.example/g00053/impl"
)

// What chapter 1 asks for, worked out another way than the program does it:
// the floats on both sides of a number are searched for among all of them, and
// held against the number as fractions.

const minus = uint32(1) << 31
const infinite = uint32(0x7f800000)
const greatest = uint32(0x7f7fffff)
const one = uint32(0x3f800000)

var allModes = [...]int{impl.NearEven, impl.NearAway, impl.ToZero, impl.ToUp, impl.ToDown}

var modeNames = [...]string{"NearEven", "NearAway", "ToZero", "ToUp", "ToDown"}

type floats struct {
	greatest uint32
	sign     uint32
	value    func(uint32) *big.Rat
	beyond   *big.Rat // the next one, had exponents no end
}

var wordFloats = floats{greatest, minus, wordValue, new(big.Rat).SetFloat64(math.Ldexp(1, 128))}

var halfFloats = floats{0x7bff, 0x8000, halfValue, new(big.Rat).SetFloat64(65536)}

func float(w uint32) float64 { return float64(math.Float32frombits(w)) }

func wordValue(w uint32) *big.Rat { return new(big.Rat).SetFloat64(float(w)) }

func halfValue(h uint32) *big.Rat {
	exponent, fraction := int(h>>10&31), float64(h&1023)
	f := math.Ldexp(fraction, -24)
	if exponent > 0 {
		f = math.Ldexp(fraction+1024, exponent-25)
	}
	if h&0x8000 != 0 {
		f = -f
	}
	return new(big.Rat).SetFloat64(f)
}

// around: the greatest float that is not above a size, and how that size lies:
// 0 upon it, then below, upon and above the middle to the next one, 4 beyond.
// over tells the sign of the size less a fraction.
func (f floats) around(over func(*big.Rat) int) (uint32, int) {
	low := uint32(sort.Search(int(f.greatest)+1, func(i int) bool { return over(f.value(uint32(i))) < 0 }) - 1)
	next := f.beyond
	if low < f.greatest {
		next = f.value(low + 1)
	}
	if over(next) >= 0 {
		return low, 4
	}
	if over(f.value(low)) == 0 {
		return low, 0
	}
	middle := new(big.Rat).Add(f.value(low), next)
	middle.Quo(middle, big.NewRat(2, 1))
	return low, 2 + over(middle)
}

func (f floats) byMode(low uint32, lies int, negative bool, mode int) uint32 {
	away := false
	switch mode {
	case impl.NearEven:
		away = lies == 3 || lies == 2 && low&1 == 1
	case impl.NearAway:
		away = lies == 2 || lies == 3
	case impl.ToUp:
		away = lies > 0 && !negative
	case impl.ToDown:
		away = lies > 0 && negative
	}
	if lies == 4 {
		low = f.greatest
		away = mode <= impl.NearAway || away
	}
	if away {
		low++
	}
	if negative {
		low |= f.sign
	}
	return low
}

// rounded: a fraction that is not 0, in all five modes.
func (f floats) rounded(x *big.Rat) [5]uint32 {
	size := new(big.Rat).Abs(x)
	low, lies := f.around(func(v *big.Rat) int { return size.Cmp(v) })
	return f.inAllModes(low, lies, x.Sign() < 0)
}

func (f floats) inAllModes(low uint32, lies int, negative bool) [5]uint32 {
	var l [5]uint32
	for i, mode := range allModes {
		l[i] = f.byMode(low, lies, negative, mode)
	}
	return l
}

func alike(w uint32) [5]uint32 { return [5]uint32{w, w, w, w, w} }

// finite: whether all are, no NaN among them.
func finite(words ...uint32) bool {
	for _, w := range words {
		if w&^minus >= infinite {
			return false
		}
	}
	return true
}

// plain: a float that is NaN, infinite or 0, as a word.
func plain(f float64) [5]uint32 {
	if math.IsNaN(f) {
		return alike(impl.TheNaN)
	}
	return alike(math.Float32bits(float32(f)))
}

// noughts: of a sum that is 0.
func noughts(a, b bool) [5]uint32 {
	if a && b {
		return alike(minus)
	}
	l := alike(0)
	if a != b {
		l[impl.ToDown] = minus
	}
	return l
}

func negative(w uint32) bool { return w >= minus }

func wantFuse(a, b, c uint32) [5]uint32 {
	if !finite(a, b, c) {
		return plain(math.FMA(float(a), float(b), float(c)))
	}
	sum := new(big.Rat).Mul(wordValue(a), wordValue(b))
	nought := sum.Sign() == 0
	sum.Add(sum, wordValue(c))
	if sum.Sign() != 0 {
		return wordFloats.rounded(sum)
	}
	if nought || c&^minus == 0 {
		return noughts(negative(a^b), negative(c))
	}
	return noughts(true, false)
}

func wantAdd(a, b uint32) [5]uint32 {
	if !finite(a, b) {
		return plain(float(a) + float(b))
	}
	sum := new(big.Rat).Add(wordValue(a), wordValue(b))
	if sum.Sign() != 0 {
		return wordFloats.rounded(sum)
	}
	return noughts(negative(a), negative(b))
}

func wantMul(a, b uint32) [5]uint32 {
	if !finite(a, b) || a&^minus == 0 || b&^minus == 0 {
		return plain(float(a) * float(b))
	}
	return wordFloats.rounded(new(big.Rat).Mul(wordValue(a), wordValue(b)))
}

func wantDiv(a, b uint32) [5]uint32 {
	if !finite(a, b) || a&^minus == 0 || b&^minus == 0 {
		return plain(float(a) / float(b))
	}
	return wordFloats.rounded(new(big.Rat).Quo(wordValue(a), wordValue(b)))
}

func wantRoot(a uint32) [5]uint32 {
	if !finite(a) || negative(a) || a == 0 {
		return plain(math.Sqrt(float(a)))
	}
	square := wordValue(a)
	low, lies := wordFloats.around(func(v *big.Rat) int { return square.Cmp(new(big.Rat).Mul(v, v)) })
	return wordFloats.inAllModes(low, lies, false)
}

func wantHalf(a uint32) [5]uint32 {
	sign := a >> 16 & 0x8000
	switch size := a &^ minus; {
	case size == 0:
		return alike(sign)
	case size == infinite:
		return alike(sign | 0x7c00)
	case size > infinite:
		return alike(0x7e00)
	}
	return halfFloats.rounded(wordValue(a))
}

func wantWhole(a uint32) [5]int {
	f := float(a)
	if math.IsNaN(f) {
		return [5]int{}
	}
	var l [5]int
	for i, g := range [5]float64{math.RoundToEven(f), math.Round(f), math.Trunc(f), math.Ceil(f), math.Floor(f)} {
		l[i] = int(min(max(g, math.MinInt32), math.MaxInt32))
	}
	return l
}

// fewWords: the edges of words, above 0 and below.
func fewWords() []uint32 {
	return withSigns([]uint32{
		0, 1, 2, 3, 0x7fffff, 0x800000, 0x800001,
		0x3f7fffff, one, one + 1, 0x33800000, 0x33800001, 0x34000000,
		greatest - 1, greatest, infinite, impl.TheNaN,
	})
}

// moreWords: fewWords, what lies between, and NaNs that must not come out.
func moreWords() []uint32 {
	return append(fewWords(), withSigns([]uint32{
		0x400000, 0xffffff, 0x1000000, 0x1fffffff, 0x20000000, 0x20000001, 0x1f800000,
		0x3eaaaaab, 0x3f000000, 0x3f000001, 0x3fc00000, 0x3fffffff, 0x40000000, 0x40400000,
		0x40200000, 0x4affffff, 0x4b000000, 0x4b7fffff, 0x4b800000, 0x4b800001, 0x4effffff,
		0x4f000000, 0x4f000001, 0x5f000000, 0x73800000, 0x73000000, 0x7e800000, 0x7f000000,
		0x33000000, 0x32800000, 0x387fc000, 0x38800000, 0x477fe000, 0x477ff000,
		0x7f800001, 0x7fc00001, 0x7fffffff,
	})...)
}

func withSigns(l []uint32) []uint32 {
	var out []uint32
	for _, w := range l {
		out = append(out, w, w|minus)
	}
	return out
}

// chance: words of any kind; every other one has an exponent near to that of 1,
// so that sums cancel and meet.
type chance struct{ *rand.Rand }

func newChance(seed int64) chance { return chance{rand.New(rand.NewSource(seed))} }

func (c chance) word() uint32 {
	w := c.Uint32()
	if w&1 == 0 {
		w = w&^(0xff<<23) | uint32(127-14+c.Intn(28))<<23
	}
	if c.Intn(4) == 0 {
		w &= ^uint32(0) << c.Intn(23)
	}
	return w
}
