package tests

import (
	"math"

	"loop.example/g00053/impl"
)

// What chapter 2 asks for, worked out another way than the program does it:
// complex numbers by the fractions of chapter 1's tests, waves by their words,
// lanes one by one by their bits.

func nearSum(a, b uint32) uint32 { return wantAdd(a, b)[impl.NearEven] }

func nearProduct(a, b uint32) uint32 { return wantMul(a, b)[impl.NearEven] }

func wantAddCw(a, b impl.Cw) impl.Cw {
	return impl.Cw{Re: nearSum(a.Re, b.Re), Im: nearSum(a.Im, b.Im)}
}

func wantMulCw(a, b impl.Cw) impl.Cw {
	return impl.Cw{
		Re: nearSum(nearProduct(a.Re, b.Re), nearProduct(a.Im, b.Im)^minus),
		Im: nearSum(nearProduct(a.Re, b.Im), nearProduct(a.Im, b.Re)),
	}
}

// wantTurn: quarter by quarter, of a number of quarters within 0..3.
func wantTurn(a impl.Cw, quarters int) impl.Cw {
	for range quarters {
		a = impl.Cw{Re: a.Im ^ minus, Im: a.Re}
	}
	return a
}

// The factors for the angles of 0, 1, 2 and 3 eighths, as words.
var waveFactors = [4]impl.Cw{
	{Re: one, Im: 0},
	{Re: 1060439283, Im: 3207922931},
	{Re: 0, Im: one | minus},
	{Re: 3207922931, Im: 3207922931},
}

// wantWaves works by the words of AddCw, MulCw and TurnCw, in place: the places
// are turned by their bits first, then parts of 2, 4 and 8 are put together.
func wantWaves(l []impl.Cw) []impl.Cw {
	n := len(l)
	out := make([]impl.Cw, n)
	for i := range l {
		at := 0
		for bit := 1; bit < n; bit *= 2 {
			at = at*2 + i/bit%2
		}
		out[at] = l[i]
	}
	for size := 2; size <= n; size *= 2 {
		for start := 0; start < n; start += size {
			for k := range size / 2 {
				e := out[start+k]
				p := impl.MulCw(waveFactors[8/size*k], out[start+k+size/2])
				out[start+k] = impl.AddCw(e, p)
				out[start+k+size/2] = impl.AddCw(e, impl.TurnCw(p, 2))
			}
		}
	}
	return out
}

func isOn(mask, lane int) bool { return mask/int(math.Exp2(float64(lane)))%2 == 1 }

func wantShuffle(l []uint32, from []int, mask int) []uint32 {
	out := append([]uint32{}, l...)
	for i := range l {
		if !isOn(mask, i) {
			continue
		}
		out[i] = 0
		for k := range l {
			if k == from[i] && isOn(mask, k) {
				out[i] = l[k]
			}
		}
	}
	return out
}

func wantWholes(l []uint32, mask int) uint32 {
	sum := 0
	for i, w := range l {
		if isOn(mask, i) {
			sum += int(w)
		}
	}
	return uint32(sum % (1 << 32))
}

// wantPrefix: each lane for itself, by the sum of the lanes below it.
func wantPrefix(l []uint32, mask int) []uint32 {
	out := make([]uint32, len(l))
	for i := range l {
		if isOn(mask, i) {
			out[i] = wantWholes(l[:i], mask)
		}
	}
	return out
}

// wantFloats: the ranks of the lanes that are on, from low up to high, halved.
func wantFloats(l []uint32, mask int) uint32 {
	lanes := []int{}
	for i := range l {
		if isOn(mask, i) {
			lanes = append(lanes, i)
		}
	}
	var among func(low, high int) uint32
	among = func(low, high int) uint32 {
		if high-low == 1 {
			return l[lanes[low]]
		}
		middle := low + (high-low)/2
		return nearSum(among(low, middle), among(middle, high))
	}
	if len(lanes) == 0 {
		return 0
	}
	return among(0, len(lanes))
}

// wantReduced: of a mask that is not 0; least and greatest by the number
// itself, the others bit by bit, by how many have it.
func wantReduced(l []uint32, mask, op int) uint32 {
	number := func(w uint32) int {
		if w >= minus {
			return int(w) - 1<<32
		}
		return int(w)
	}
	least, greatest, on := 1<<40, -1<<40, 0
	var with [32]int
	for i, w := range l {
		if !isOn(mask, i) {
			continue
		}
		on++
		least, greatest = min(least, number(w)), max(greatest, number(w))
		for bit := range with {
			with[bit] += int(w >> bit & 1)
		}
	}
	switch op {
	case 1:
		return uint32(least)
	case 2:
		return uint32(greatest)
	}
	out := uint32(0)
	for bit, n := range with {
		if op == 3 && n == on || op == 4 && n > 0 || op == 5 && n%2 == 1 {
			out += 1 << bit
		}
	}
	return out
}

func (c chance) cw() impl.Cw { return impl.Cw{Re: c.word(), Im: c.word()} }

func (c chance) cws(n int) []impl.Cw {
	l := make([]impl.Cw, n)
	for i := range l {
		l[i] = c.cw()
	}
	return l
}

func (c chance) words(n int) []uint32 {
	l := make([]uint32, n)
	for i := range l {
		l[i] = c.word()
	}
	return l
}

// places: numbers of lanes, some of them not there, or far outside.
func (c chance) places(n int) []int {
	far := [...]int{-1, n, n + 1, -n, 16, 1 << 32, -1 << 32, 1<<32 + 1, math.MinInt64, math.MaxInt64}
	l := make([]int, n)
	for i := range l {
		l[i] = c.Intn(n)
		if c.Intn(5) == 0 {
			l[i] = far[c.Intn(len(far))]
		}
	}
	return l
}
