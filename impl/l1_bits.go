package impl

import (
	"math"
	"math/bits"
)

const NearEven = 0
const NearAway = 1
const ToZero = 2
const ToUp = 3
const ToDown = 4
const TheNaN = 2143289344
const MaxTake = 40

const wordOne = 1065353216
const halfNaN = 32256
const farthestPower = 400
const leastWhole = -2147483648
const greatestWhole = 2147483647

// The rows of floatForms.
const wordForm = 0
const halfForm = 1

// What a float is, by kindOf.
const floatNought = 0
const floatNumber = 1
const floatInfinite = 2
const floatNaN = 3

// How what is cut off of a number lies to half of the last step that is kept.
const cutNothing = 0
const cutBelow = 1
const cutMiddle = 2
const cutAbove = 3

// floatForm: the bits of a float of one size. The infinite one follows the
// greatest finite one, and the NaNs follow that.
type floatForm struct {
	fraction  int
	leastStep int
	sign      uint32
	greatest  uint32
}

var floatForms = [...]floatForm{
	{fraction: 23, leastStep: -149, sign: 2147483648, greatest: 2139095039},
	{fraction: 10, leastStep: -24, sign: 32768, greatest: 31743},
}

// exact is a number ahead of its rounding: size times 2^power, with more a
// little beyond that size, by less than 1. Rounding needs no more of what lies
// below the last bit than whether there is anything, so 64 bits do.
type exact struct {
	negative bool
	size     uint64
	power    int
	more     bool
}

func GoodMode(mode int) bool {
	return mode >= NearEven && mode <= ToDown
}

func RoundNumber(num int, power int, mode int) uint32 {
	if !GoodMode(mode) || num == 0 || power < -farthestPower || power > farthestPower {
		return 0
	}
	size := uint64(num)
	if num < 0 {
		size = -size // wraps to the right size even of the least int
	}
	return roundExact(exact{negative: num < 0, size: size, power: power}, wordForm, mode)
}

// AddWords is fused with 1, so that sums have their noughts and infinite ones
// told in one place.
func AddWords(a uint32, b uint32, mode int) uint32 {
	return FuseWords(a, wordOne, b, mode)
}

func MulWords(a uint32, b uint32, mode int) uint32 {
	if !GoodMode(mode) {
		return 0
	}
	x, y := kindOf(a, wordForm), kindOf(b, wordForm)
	sign := signOf(a^b, wordForm)
	switch {
	case x == floatNaN || y == floatNaN || noughtAndInfinite(x, y):
		return TheNaN
	case x == floatInfinite || y == floatInfinite:
		return sign | infiniteOf(wordForm)
	case x == floatNought || y == floatNought:
		return sign
	}
	return roundExact(productOf(a, b), wordForm, mode)
}

func DivWords(a uint32, b uint32, mode int) uint32 {
	if !GoodMode(mode) {
		return 0
	}
	x, y := kindOf(a, wordForm), kindOf(b, wordForm)
	sign := signOf(a^b, wordForm)
	switch {
	case x == floatNaN || y == floatNaN || x == y && x != floatNumber:
		return TheNaN
	case x == floatInfinite || y == floatNought:
		return sign | infiniteOf(wordForm)
	case x == floatNought || y == floatInfinite:
		return sign
	}
	return roundExact(quotientOf(exactOf(a, wordForm), exactOf(b, wordForm)), wordForm, mode)
}

func FuseWords(a uint32, b uint32, c uint32, mode int) uint32 {
	if !GoodMode(mode) {
		return 0
	}
	x, y, z := kindOf(a, wordForm), kindOf(b, wordForm), kindOf(c, wordForm)
	if x == floatNaN || y == floatNaN || z == floatNaN || noughtAndInfinite(x, y) {
		return TheNaN
	}
	sign := signOf(a^b, wordForm)
	switch {
	case x != floatInfinite && y != floatInfinite && z != floatInfinite:
		return roundSum(productOf(a, b), exactOf(c, wordForm), mode)
	case x != floatInfinite && y != floatInfinite:
		return c
	case z == floatInfinite && signOf(c, wordForm) != sign:
		return TheNaN
	}
	return sign | infiniteOf(wordForm)
}

func RootWord(a uint32, mode int) uint32 {
	if !GoodMode(mode) {
		return 0
	}
	kind := kindOf(a, wordForm)
	switch {
	case kind == floatNought:
		return a
	case kind == floatNaN || signOf(a, wordForm) != 0:
		return TheNaN
	case kind == floatInfinite:
		return a
	}
	return roundExact(rootOf(exactOf(a, wordForm)), wordForm, mode)
}

func CmpWords(a uint32, b uint32) int {
	x, y := math.Float32frombits(a), math.Float32frombits(b)
	switch {
	case x < y:
		return -1
	case x > y:
		return 1
	case x == y:
		return 0
	}
	return 2
}

func HalfOf(a uint32, mode int) uint32 {
	if !GoodMode(mode) {
		return 0
	}
	return betweenForms(a, wordForm, halfForm, mode)
}

// WordOfHalf takes any mode for its rounding: each half has a word of its value.
func WordOfHalf(h uint32) uint32 {
	if h >= 2*floatForms[halfForm].sign {
		return 0
	}
	return betweenForms(h, halfForm, wordForm, ToZero)
}

func WholeOf(a uint32, mode int) int {
	if !GoodMode(mode) || kindOf(a, wordForm) == floatNaN {
		return 0
	}
	x := exactOf(a, wordForm) // of an infinite one 2^128, beyond the bounds as well
	if x.power >= 32 {
		return wholeWithSign(greatestWhole+1, x.negative)
	}
	kept, cut := cutBits(x, -x.power)
	if goesAway(mode, x.negative, kept, cut) {
		kept++
	}
	return wholeWithSign(kept, x.negative)
}

func wholeWithSign(size uint64, negative bool) int {
	if negative {
		return max(-int(size), leastWhole)
	}
	return min(int(size), greatestWhole)
}

func kindOf(a uint32, form int) int {
	size := a &^ floatForms[form].sign
	switch {
	case size == 0:
		return floatNought
	case size <= floatForms[form].greatest:
		return floatNumber
	case size == infiniteOf(form):
		return floatInfinite
	}
	return floatNaN
}

func noughtAndInfinite(x int, y int) bool {
	return x == floatNought && y == floatInfinite || x == floatInfinite && y == floatNought
}

func signOf(a uint32, form int) uint32 {
	return a & floatForms[form].sign
}

func infiniteOf(form int) uint32 {
	return floatForms[form].greatest + 1
}

func withSign(size uint32, negative bool, form int) uint32 {
	if negative {
		return size | floatForms[form].sign
	}
	return size
}

// betweenForms: a float of one form as one of the other form.
func betweenForms(a uint32, from int, to int, mode int) uint32 {
	negative := signOf(a, from) != 0
	switch kindOf(a, from) {
	case floatNought:
		return withSign(0, negative, to)
	case floatInfinite:
		return withSign(infiniteOf(to), negative, to)
	case floatNaN:
		return nanOf(to)
	}
	return roundExact(exactOf(a, from), to, mode)
}

func nanOf(form int) uint32 {
	if form == halfForm {
		return halfNaN
	}
	return TheNaN
}

// exactOf: a float that is no NaN; of a nought the size is 0.
func exactOf(a uint32, form int) exact {
	size := a &^ floatForms[form].sign
	leading := uint32(1) << floatForms[form].fraction
	x := exact{negative: signOf(a, form) != 0, size: uint64(size), power: floatForms[form].leastStep}
	if size >= leading {
		x.size = uint64(size%leading + leading)
		x.power += int(size/leading) - 1
	}
	return x
}

// productOf keeps the sign of both together where the product is 0, too.
func productOf(a uint32, b uint32) exact {
	x, y := exactOf(a, wordForm), exactOf(b, wordForm)
	return exact{negative: x.negative != y.negative, size: x.size * y.size, power: x.power + y.power}
}

// quotientOf: of two that are not 0, y of at most 30 bits. It lifts what is
// divided: its quotient then has more bits than any rounding keeps, so that
// more tells all that is left.
func quotientOf(x exact, y exact) exact {
	x = liftTo(x, 62)
	return exact{
		negative: x.negative != y.negative,
		size:     x.size / y.size,
		power:    x.power - y.power,
		more:     x.size%y.size != 0,
	}
}

// rootOf: of a number above 0 that has no more; its power is made even.
func rootOf(x exact) exact {
	x = liftTo(x, 61)
	if x.power%2 != 0 {
		x = liftTo(x, 62)
	}
	root := wholeRoot(x.size)
	return exact{size: root, power: x.power / 2, more: root*root != x.size}
}

func wholeRoot(n uint64) uint64 {
	root := uint64(0)
	for bit := uint64(1) << 31; bit > 0; bit /= 2 {
		if (root+bit)*(root+bit) <= n {
			root += bit
		}
	}
	return root
}

// liftTo: the same number, its size with that many bits (it has fewer so far,
// or as many, and is not 0).
func liftTo(x exact, length int) exact {
	shift := length - bits.Len64(x.size)
	x.size <<= shift
	x.power -= shift
	return x
}

// roundSum: x and y added, of at most 48 bits each. Where the sum is 0 and both
// have one sign both are noughts.
func roundSum(x exact, y exact, mode int) uint32 {
	sum := sumOf(x, y)
	switch {
	case sum.size > 0:
		return roundExact(sum, wordForm, mode)
	case x.negative == y.negative:
		return withSign(0, x.negative, wordForm)
	}
	return withSign(0, mode == ToDown, wordForm)
}

func sumOf(x exact, y exact) exact {
	if x.size == 0 {
		return y
	}
	if y.size == 0 {
		return x
	}
	if bits.Len64(x.size)+x.power < bits.Len64(y.size)+y.power {
		x, y = y, x
	}
	x = liftTo(x, 62)
	y = lowerTo(y, x.power)
	if x.negative == y.negative {
		x.size += y.size
		x.more = y.more
		return x
	}
	return differenceOf(x, y)
}

// lowerTo: the same number with that power; bits that fall off become more.
func lowerTo(x exact, power int) exact {
	kept, cut := cutBits(x, power-x.power)
	return exact{negative: x.negative, size: kept, power: power, more: cut != cutNothing}
}

// differenceOf: of two of one power and unlike signs. y has more only where it
// is by far the lesser one: all of 1 but that more is left of x's last step.
func differenceOf(x exact, y exact) exact {
	if x.size < y.size {
		x, y = y, x
	}
	x.size -= y.size
	if y.more {
		x.size--
		x.more = true
	}
	return x
}

// roundExact: a number that is not 0, as a float of a form. A float's bits but
// the sign rise with its size by one a step, so the step away is an added 1,
// whatever exponent it ends at; exponents that no float has are told by the
// greatest one at the end.
func roundExact(x exact, form int, mode int) uint32 {
	fraction, leastStep := floatForms[form].fraction, floatForms[form].leastStep
	step := max(bits.Len64(x.size)+x.power-fraction-1, leastStep)
	kept, cut := cutBits(x, step-x.power)
	if goesAway(mode, x.negative, kept, cut) {
		kept++
	}
	size := kept + uint64(step-leastStep)<<fraction
	if size > uint64(floatForms[form].greatest) {
		return beyondGreatest(x.negative, form, mode)
	}
	return withSign(uint32(size), x.negative, form)
}

func beyondGreatest(negative bool, form int, mode int) uint32 {
	if mode == ToZero || mode == ToUp && negative || mode == ToDown && !negative {
		return withSign(floatForms[form].greatest, negative, form)
	}
	return withSign(infiniteOf(form), negative, form)
}

// cutBits: a size in steps of 2^shift of its own, and how what is cut off lies.
// A shift upwards cuts nothing (whoever has more has bits enough to cut).
func cutBits(x exact, shift int) (uint64, int) {
	if shift <= 0 {
		return x.size << -shift, cutNothing
	}
	kept := x.size >> shift
	rest := x.size - kept<<shift
	middle := uint64(1) << (shift - 1)
	switch {
	case rest == 0 && !x.more:
		return kept, cutNothing
	case shift > 64 || rest < middle: // beyond 64 the middle is above all sizes
		return kept, cutBelow
	case rest == middle && !x.more:
		return kept, cutMiddle
	}
	return kept, cutAbove
}

// goesAway: whether the mode takes the next one away from 0, not what is kept.
func goesAway(mode int, negative bool, kept uint64, cut int) bool {
	switch mode {
	case NearEven:
		return cut == cutAbove || cut == cutMiddle && kept%2 == 1
	case NearAway:
		return cut >= cutMiddle
	case ToUp:
		return cut != cutNothing && !negative
	case ToDown:
		return cut != cutNothing && negative
	}
	return false
}
