package tests

import (
	"math"
	"testing"

	"loop.example/g00053/impl"
)

// The edges that chapter 1 names, with their words written out.

type edge struct {
	what string
	got  func(mode int) uint32
	want [5]uint32 // in the order of the modes
}

func heldEdges(t *testing.T, l []edge) {
	t.Helper()
	for _, e := range l {
		held(t, e.what, e.want, e.got)
	}
}

func number(num, power int) func(int) uint32 {
	return func(m int) uint32 { return impl.RoundNumber(num, power, m) }
}

func sum(a, b uint32) func(int) uint32 {
	return func(m int) uint32 { return impl.AddWords(a, b, m) }
}

func product(a, b uint32) func(int) uint32 {
	return func(m int) uint32 { return impl.MulWords(a, b, m) }
}

func quotient(a, b uint32) func(int) uint32 {
	return func(m int) uint32 { return impl.DivWords(a, b, m) }
}

func fused(a, b, c uint32) func(int) uint32 {
	return func(m int) uint32 { return impl.FuseWords(a, b, c, m) }
}

func root(a uint32) func(int) uint32 {
	return func(m int) uint32 { return impl.RootWord(a, m) }
}

func half(a uint32) func(int) uint32 {
	return func(m int) uint32 { return impl.HalfOf(a, m) }
}

func TestHalvesBetweenTwo(t *testing.T) {
	t.Parallel()
	heldEdges(t, []edge{
		{"2^24 + 1", number(1<<24+1, 0), [5]uint32{0x4b800000, 0x4b800001, 0x4b800000, 0x4b800001, 0x4b800000}},
		{"2^24 + 3", number(1<<24+3, 0), [5]uint32{0x4b800002, 0x4b800002, 0x4b800001, 0x4b800002, 0x4b800001}},
		{"-2^24 - 1", number(-1<<24-1, 0), [5]uint32{0xcb800000, 0xcb800001, 0xcb800000, 0xcb800000, 0xcb800001}},
		{"-2^24 - 3", number(-1<<24-3, 0), [5]uint32{0xcb800002, 0xcb800002, 0xcb800001, 0xcb800001, 0xcb800002}},
		{"2^25 - 1", number(1<<25-1, 0), [5]uint32{0x4c000000, 0x4c000000, 0x4bffffff, 0x4c000000, 0x4bffffff}},
		{"1 + 2^-24", sum(one, 0x33800000), [5]uint32{one, one + 1, one, one + 1, one}},
		{"1 + 3 2^-24", sum(one+1, 0x33800000), [5]uint32{one + 2, one + 2, one + 1, one + 2, one + 1}},
		{"a little above 1 + 2^-24", sum(one, 0x33800001), [5]uint32{one + 1, one + 1, one, one + 1, one}},
		{"a little below 1 + 2^-24", sum(one, 0x337fffff), [5]uint32{one, one, one, one + 1, one}},
		{"1 - 2^-25", sum(one, 0x33000000|minus), [5]uint32{one, one, one - 1, one, one - 1}},
		{"1 + 2^-149", sum(one, 1), [5]uint32{one, one, one, one + 1, one}},
		{"1 - 2^-149", sum(one, 1|minus), [5]uint32{one, one, one - 1, one, one - 1}},
		{"(1 + 2^-12)^2", product(0x3f800800, 0x3f800800), [5]uint32{0x3f801000, 0x3f801001, 0x3f801000, 0x3f801001, 0x3f801000}},
		{"(1 + 2^-12)^2 + 2^-149", fused(0x3f800800, 0x3f800800, 1), [5]uint32{0x3f801001, 0x3f801001, 0x3f801000, 0x3f801001, 0x3f801000}},
		{"(1 + 2^-12)^2 - 2^-149", fused(0x3f800800, 0x3f800800, 1|minus), [5]uint32{0x3f801000, 0x3f801000, 0x3f801000, 0x3f801001, 0x3f801000}},
		{"1 / 3", quotient(one, 0x40400000), [5]uint32{0x3eaaaaab, 0x3eaaaaab, 0x3eaaaaaa, 0x3eaaaaab, 0x3eaaaaaa}},
		{"-1 / 3", quotient(one|minus, 0x40400000), [5]uint32{0xbeaaaaab, 0xbeaaaaab, 0xbeaaaaaa, 0xbeaaaaaa, 0xbeaaaaab}},
		{"3 2^-149 / 2", quotient(3, 0x40000000), [5]uint32{2, 2, 1, 2, 1}},
		{"the root of 2", root(0x40000000), [5]uint32{0x3fb504f3, 0x3fb504f3, 0x3fb504f3, 0x3fb504f4, 0x3fb504f3}},
		{"the root of 4", root(0x40800000), alike(0x40000000)},
		{"the root of 2^-149", root(1), [5]uint32{0x1a3504f3, 0x1a3504f3, 0x1a3504f3, 0x1a3504f4, 0x1a3504f3}},
		{"the half of 1 + 2^-11", half(0x3f801000), [5]uint32{0x3c00, 0x3c01, 0x3c00, 0x3c01, 0x3c00}},
		{"the half of -1 - 3 2^-11", half(0xbf803000), [5]uint32{0xbc02, 0xbc02, 0xbc01, 0xbc01, 0xbc02}},
	})
}

func TestSignsOfNoughts(t *testing.T) {
	t.Parallel()
	mixed := [5]uint32{0, 0, 0, 0, minus}
	heldEdges(t, []edge{
		{"0 of RoundNumber", number(0, 0), alike(0)},
		{"0 of RoundNumber, power 400", number(0, 400), alike(0)},
		{"0 + 0", sum(0, 0), alike(0)},
		{"-0 + -0", sum(minus, minus), alike(minus)},
		{"0 + -0", sum(0, minus), mixed},
		{"-0 + 0", sum(minus, 0), mixed},
		{"1 - 1", sum(one, one|minus), mixed},
		{"-1 + 1", sum(one|minus, one), mixed},
		{"2^-149 - 2^-149", sum(1, 1|minus), mixed},
		{"greatest - greatest", sum(greatest, greatest|minus), mixed},
		{"0 + 1", sum(0, one), alike(one)},
		{"2^-149 + -0", sum(1, minus), alike(1)},
		{"0 * 1", product(0, one), alike(0)},
		{"-0 * 1", product(minus, one), alike(minus)},
		{"0 * -1", product(0, one|minus), alike(minus)},
		{"-0 * -0", product(minus, minus), alike(0)},
		{"0 / -1", quotient(0, one|minus), alike(minus)},
		{"-0 / -1", quotient(minus, one|minus), alike(0)},
		{"-0 / infinite", quotient(minus, infinite), alike(minus)},
		{"1 / -infinite", quotient(one, infinite|minus), alike(minus)},
		{"0 0 + 0", fused(0, 0, 0), alike(0)},
		{"0 -1 + -0", fused(0, one|minus, minus), alike(minus)},
		{"0 -1 + 0", fused(0, one|minus, 0), mixed},
		{"0 1 + -0", fused(0, one, minus), mixed},
		{"1 1 - 1", fused(one, one, one|minus), mixed},
		{"1 -1 + 1", fused(one, one|minus, one), mixed},
		{"2^-149 2^-149 + -0", fused(1, 1, minus), [5]uint32{0, 0, 0, 1, 0}},
		{"2^-149 -2^-149 + 0", fused(1, 1|minus, 0), [5]uint32{minus, minus, minus, minus, 1 | minus}},
		{"the root of 0", root(0), alike(0)},
		{"the root of -0", root(minus), alike(minus)},
		{"the half of 0", half(0), alike(0)},
		{"the half of -0", half(minus), alike(0x8000)},
		{"1 that becomes 0", number(1, -400), [5]uint32{0, 0, 0, 1, 0}},
		{"-1 that becomes 0", number(-1, -400), [5]uint32{minus, minus, minus, minus, 1 | minus}},
		{"2^-149 / greatest", quotient(1, greatest), [5]uint32{0, 0, 0, 1, 0}},
		{"-2^-149 / greatest", quotient(1|minus, greatest), [5]uint32{minus, minus, minus, minus, 1 | minus}},
		{"2^-149 2^-149", product(1, 1), [5]uint32{0, 0, 0, 1, 0}},
		{"2^-149 -2^-149", product(1, 1|minus), [5]uint32{minus, minus, minus, minus, 1 | minus}},
	})
}

func TestStepsThatEnd(t *testing.T) {
	t.Parallel()
	heldEdges(t, []edge{
		{"2^-149", number(1, -149), alike(1)},
		{"2^-150", number(1, -150), [5]uint32{0, 1, 0, 1, 0}},
		{"-2^-150", number(-1, -150), [5]uint32{minus, minus | 1, minus, minus, minus | 1}},
		{"3 2^-151", number(3, -151), [5]uint32{1, 1, 0, 1, 0}},
		{"3 2^-150", number(3, -150), [5]uint32{2, 2, 1, 2, 1}},
		{"2^-151", number(1, -151), [5]uint32{0, 0, 0, 1, 0}},
		{"2^-126 less half a step", number(1<<24-1, -150), [5]uint32{0x800000, 0x800000, 0x7fffff, 0x800000, 0x7fffff}},
		{"2^-126 / 2", product(0x800000, 0x3f000000), alike(0x400000)},
		{"2^-24 as a half", half(0x33800000), alike(1)},
		{"2^-25 as a half", half(0x33000000), [5]uint32{0, 1, 0, 1, 0}},
		{"-2^-25 as a half", half(0xb3000000), [5]uint32{0x8000, 0x8001, 0x8000, 0x8000, 0x8001}},
		{"a little above 2^-25 as a half", half(0x33000001), [5]uint32{1, 1, 0, 1, 0}},
		{"3 2^-25 as a half", half(0x33c00000), [5]uint32{2, 2, 1, 2, 1}},
		{"2^-149 as a half", half(1), [5]uint32{0, 0, 0, 1, 0}},
		{"-2^-149 as a half", half(1 | minus), [5]uint32{0x8000, 0x8000, 0x8000, 0x8000, 0x8001}},
		{"2^-14 less half a step as a half", half(0x387fe000), [5]uint32{0x400, 0x400, 0x3ff, 0x400, 0x3ff}},
	})
	for h, w := range map[uint32]uint32{1: 0x33800000, 0x8001: 0xb3800000, 2: 0x34000000, 0x3ff: 0x387fc000, 0x400: 0x38800000, 0x3c00: one, 0x7bff: 0x477fe000, 0xfbff: 0xc77fe000} {
		if got := impl.WordOfHalf(h); got != w {
			t.Errorf("WordOfHalf(%#x) = %#x, want %#x", h, got, w)
		}
	}
}

func TestBeyondTheGreatest(t *testing.T) {
	t.Parallel()
	above := [5]uint32{infinite, infinite, greatest, infinite, greatest}
	below := [5]uint32{infinite | minus, infinite | minus, greatest | minus, greatest | minus, infinite | minus}
	heldEdges(t, []edge{
		{"2^128", number(1, 128), above},
		{"-2^128", number(-1, 128), below},
		{"2^400", number(1, 400), above},
		{"-2^400", number(-1, 400), below},
		{"the greatest int, power 400", number(math.MaxInt64, 400), above},
		{"the least int, power 400", number(math.MinInt64, 400), below},
		{"the greatest", number(1<<24-1, 104), alike(greatest)},
		{"the greatest and half a step", number(1<<25-1, 103), above},
		{"the greatest and less than half a step", number(1<<26-3, 102), [5]uint32{greatest, greatest, greatest, infinite, greatest}},
		{"less than the greatest by less than half a step below 0", number(-1<<26+3, 102), [5]uint32{greatest | minus, greatest | minus, greatest | minus, greatest | minus, infinite | minus}},
		{"greatest + greatest", sum(greatest, greatest), above},
		{"-greatest - greatest", sum(greatest|minus, greatest|minus), below},
		{"greatest + 2^-149", sum(greatest, 1), [5]uint32{greatest, greatest, greatest, infinite, greatest}},
		{"greatest - 2^-149", sum(greatest, 1|minus), [5]uint32{greatest, greatest, greatest - 1, greatest, greatest - 1}},
		{"greatest greatest", product(greatest, greatest), above},
		{"greatest -greatest", product(greatest, greatest|minus), below},
		{"greatest / 2^-149", quotient(greatest, 1), above},
		{"greatest / -2^-149", quotient(greatest, 1|minus), below},
		{"greatest greatest - greatest", fused(greatest, greatest, greatest|minus), above},
		{"greatest -greatest + greatest", fused(greatest, greatest|minus, greatest), below},
		{"2 greatest - greatest", fused(greatest, 0x40000000, greatest|minus), alike(greatest)},
		{"65519 as a half", half(0x477fef00), [5]uint32{0x7bff, 0x7bff, 0x7bff, 0x7c00, 0x7bff}},
		{"-65519 as a half", half(0xc77fef00), [5]uint32{0xfbff, 0xfbff, 0xfbff, 0xfbff, 0xfc00}},
		{"65520 as a half", half(0x477ff000), [5]uint32{0x7c00, 0x7c00, 0x7bff, 0x7c00, 0x7bff}},
		{"-65520 as a half", half(0xc77ff000), [5]uint32{0xfc00, 0xfc00, 0xfbff, 0xfbff, 0xfc00}},
		{"the greatest as a half", half(greatest), [5]uint32{0x7c00, 0x7c00, 0x7bff, 0x7c00, 0x7bff}},
		{"-greatest as a half", half(greatest | minus), [5]uint32{0xfc00, 0xfc00, 0xfbff, 0xfbff, 0xfc00}},
	})
}

func TestInfiniteOnesStay(t *testing.T) {
	t.Parallel()
	heldEdges(t, []edge{
		{"infinite + 1", sum(infinite, one), alike(infinite)},
		{"-greatest + infinite", sum(greatest|minus, infinite), alike(infinite)},
		{"-infinite + greatest", sum(infinite|minus, greatest), alike(infinite | minus)},
		{"infinite + infinite", sum(infinite, infinite), alike(infinite)},
		{"infinite * -2^-149", product(infinite, 1|minus), alike(infinite | minus)},
		{"-infinite * -infinite", product(infinite|minus, infinite|minus), alike(infinite)},
		{"infinite / -1", quotient(infinite, one|minus), alike(infinite | minus)},
		{"infinite / 0", quotient(infinite, 0), alike(infinite)},
		{"infinite / -0", quotient(infinite, minus), alike(infinite | minus)},
		{"1 / 0", quotient(one, 0), alike(infinite)},
		{"1 / -0", quotient(one, minus), alike(infinite | minus)},
		{"-1 / -0", quotient(one|minus, minus), alike(infinite)},
		{"0 / infinite", quotient(0, infinite), alike(0)},
		{"infinite 1 + -greatest", fused(infinite, one, greatest|minus), alike(infinite)},
		{"infinite -1 + -infinite", fused(infinite, one|minus, infinite|minus), alike(infinite | minus)},
		{"1 1 + -infinite", fused(one, one, infinite|minus), alike(infinite | minus)},
		{"0 0 + infinite", fused(0, 0, infinite), alike(infinite)},
		{"greatest greatest + -infinite", fused(greatest, greatest, infinite|minus), alike(infinite | minus)},
		{"the root of infinite", root(infinite), alike(infinite)},
		{"the half of infinite", half(infinite), alike(0x7c00)},
		{"the half of -infinite", half(infinite | minus), alike(0xfc00)},
	})
	if impl.WordOfHalf(0x7c00) != infinite || impl.WordOfHalf(0xfc00) != infinite|minus {
		t.Error("infinite halves")
	}
}

func TestNaNsThatComeOut(t *testing.T) {
	t.Parallel()
	nan := alike(impl.TheNaN)
	heldEdges(t, []edge{
		{"infinite - infinite", sum(infinite, infinite|minus), nan},
		{"-infinite + infinite", sum(infinite|minus, infinite), nan},
		{"0 * infinite", product(0, infinite), nan},
		{"-infinite * 0", product(infinite|minus, 0), nan},
		{"0 / 0", quotient(0, minus), nan},
		{"infinite / infinite", quotient(infinite|minus, infinite), nan},
		{"0 infinite + 1", fused(0, infinite, one), nan},
		{"infinite -0 + infinite", fused(infinite, minus, infinite), nan},
		{"infinite 1 - infinite", fused(infinite, one, infinite|minus), nan},
		{"1 -infinite + infinite", fused(one, infinite|minus, infinite), nan},
		{"the root of -1", root(one | minus), nan},
		{"the root of -2^-149", root(1 | minus), nan},
		{"the root of -infinite", root(infinite | minus), nan},
	})
	for _, n := range []uint32{impl.TheNaN, impl.TheNaN | minus, infinite + 1, infinite + 1 | minus, 0x7fffffff, 0xffffffff} {
		for _, a := range fewWords() {
			heldEdges(t, []edge{
				{"NaN +", sum(n, a), nan}, {"+ NaN", sum(a, n), nan},
				{"NaN *", product(n, a), nan}, {"* NaN", product(a, n), nan},
				{"NaN /", quotient(n, a), nan}, {"/ NaN", quotient(a, n), nan},
				{"NaN fused", fused(n, a, a), nan}, {"fused by NaN", fused(a, n, a), nan}, {"fused and NaN", fused(a, a, n), nan},
			})
		}
		heldEdges(t, []edge{{"the root of NaN", root(n), nan}, {"the half of NaN", half(n), alike(32256)}})
		for _, mode := range allModes {
			if impl.WholeOf(n, mode) != 0 {
				t.Errorf("WholeOf(%#x) is not 0", n)
			}
		}
	}
	for h := uint32(0x7c01); h <= 0x7fff; h++ {
		if impl.WordOfHalf(h) != impl.TheNaN || impl.WordOfHalf(h|0x8000) != impl.TheNaN {
			t.Errorf("the word of the half %#x", h)
		}
	}
}

func TestWholesAtTheirBounds(t *testing.T) {
	t.Parallel()
	for _, e := range []struct {
		a    uint32
		want [5]int
	}{
		{0, [5]int{}}, {minus, [5]int{}},
		{1, [5]int{0, 0, 0, 1, 0}}, {1 | minus, [5]int{0, 0, 0, 0, -1}},
		{0x3f000000, [5]int{0, 1, 0, 1, 0}}, {0xbf000000, [5]int{0, -1, 0, 0, -1}},
		{0x3effffff, [5]int{0, 0, 0, 1, 0}}, {0x3f000001, [5]int{1, 1, 0, 1, 0}},
		{0x3fc00000, [5]int{2, 2, 1, 2, 1}}, {0xbfc00000, [5]int{-2, -2, -1, -1, -2}},
		{0x40200000, [5]int{2, 3, 2, 3, 2}}, {0xc0200000, [5]int{-2, -3, -2, -2, -3}},
		{0x4b000001, [5]int{8388609, 8388609, 8388609, 8388609, 8388609}},
		{0x4effffff, [5]int{2147483520, 2147483520, 2147483520, 2147483520, 2147483520}},
		{0x4f000000, [5]int{2147483647, 2147483647, 2147483647, 2147483647, 2147483647}},
		{0xceffffff, [5]int{-2147483520, -2147483520, -2147483520, -2147483520, -2147483520}},
		{0xcf000000, [5]int{-2147483648, -2147483648, -2147483648, -2147483648, -2147483648}},
		{0xcf000001, [5]int{-2147483648, -2147483648, -2147483648, -2147483648, -2147483648}},
		{greatest, [5]int{2147483647, 2147483647, 2147483647, 2147483647, 2147483647}},
		{infinite, [5]int{2147483647, 2147483647, 2147483647, 2147483647, 2147483647}},
		{greatest | minus, [5]int{-2147483648, -2147483648, -2147483648, -2147483648, -2147483648}},
		{infinite | minus, [5]int{-2147483648, -2147483648, -2147483648, -2147483648, -2147483648}},
	} {
		for i, mode := range allModes {
			if n := impl.WholeOf(e.a, mode); n != e.want[i] {
				t.Errorf("WholeOf(%#x, %s) = %d, want %d", e.a, modeNames[i], n, e.want[i])
			}
		}
	}
}
