package tests

import (
	"math"
	"slices"
	"testing"

	"loop.example/g00053/impl"
)

// The edges that chapter 20 names of things that share room, with what is answered
// written out.

// spansFrom: pairs with `|` between each two.
func spansFrom(text string) [][]int {
	if text == "" {
		return nil
	}
	return setsOf(text)
}

func shared(t *testing.T, sizes, spans, places string, end int) {
	t.Helper()
	got, all, ok := impl.ShareRoom(numbersOf(sizes), spansFrom(spans))
	if !ok || all != end || !slices.Equal(got, numbersOf(places)) {
		t.Errorf("ShareRoom(%s, %s) = %v, %d, %v, want %s, %d", sizes, spans, got, all, ok, places, end)
	}
	heldShare(t, numbersOf(sizes), spansFrom(spans))
}

func notShared(t *testing.T, sizes []int, spans [][]int) {
	t.Helper()
	if got, all, ok := impl.ShareRoom(sizes, spans); ok || all != 0 || len(got) > 0 {
		t.Errorf("ShareRoom(%v, %v) = %v, %d, %v", briefly(sizes), briefly(spans), got, all, ok)
	}
	heldShare(t, sizes, spans)
}

func TestThingsOfUnlikeTimes(t *testing.T) {
	t.Parallel()
	shared(t, "", "", "", 0)
	shared(t, "7", "0 0", "0", 7)
	shared(t, "4096", "0 1000", "0", 4096)
	shared(t, "10 20 5", "0 1 | 2 3 | 1 2", "0 0 20", 25)
	shared(t, "10 20 5", "0 1 | 2 3 | 4 5", "0 0 0", 20)
	shared(t, "10 20 5", "0 5 | 2 3 | 4 5", "20 0 0", 30)
	shared(t, "10 20 5", "0 9 | 1 8 | 2 7", "20 0 30", 35)
	shared(t, "4 4", "0 3 | 4 9", "0 0", 4)
	shared(t, "4 4", "0 4 | 4 9", "0 4", 8)
	shared(t, "4 4", "4 9 | 0 4", "0 4", 8)
	shared(t, "4 4", "4 9 | 0 3", "0 0", 4)
	shared(t, "4 4", "5 5 | 0 1000", "0 4", 8)
	shared(t, "4 4", "5 5 | 5 5", "0 4", 8)
	shared(t, "4 4", "5 5 | 6 6", "0 0", 4)
	shared(t, "4 4", "1000 1000 | 0 1000", "0 4", 8)
}

func TestThingsByTheirSizes(t *testing.T) {
	t.Parallel()
	shared(t, "1 2 3", "0 0 | 0 0 | 0 0", "5 3 0", 6)
	shared(t, "3 2 1", "0 0 | 0 0 | 0 0", "0 3 5", 6)
	shared(t, "2 3 2 3", "0 0 | 0 0 | 0 0 | 0 0", "6 0 8 3", 10)
	shared(t, "5 5 5", "0 0 | 0 0 | 0 0", "0 5 10", 15)
	shared(t, "5 5 5 5", "0 1 | 1 2 | 2 3 | 3 4", "0 5 0 5", 10)
	shared(t, "5 6 5 5", "0 1 | 1 2 | 2 3 | 3 4", "6 0 6 0", 11)
}

func TestThingsInGaps(t *testing.T) {
	t.Parallel()
	// 6 bytes are free between, for as long as the third one is not there.
	shared(t, "10 9 8 6", "0 5 | 0 1 | 0 3 | 2 5", "0 10 19 10", 27)
	shared(t, "10 6 8 5", "0 5 | 0 1 | 0 3 | 2 5", "0 18 10 18", 24)
	shared(t, "10 9 8 7", "0 5 | 0 0 | 0 3 | 3 5", "0 10 19 10", 27)
	shared(t, "8 7 6 5", "0 1 | 0 9 | 0 9 | 2 9", "0 8 15 0", 21)
	shared(t, "8 7 6 5 3", "0 1 | 0 9 | 0 9 | 2 9 | 2 9", "0 8 15 0 5", 21)
	shared(t, "8 7 6 5 4", "0 1 | 0 9 | 0 9 | 2 9 | 2 9", "0 8 15 0 21", 25)
	shared(t, "8 7 6 1", "0 9 | 0 1 | 0 9 | 2 9", "0 8 15 8", 21)
	shared(t, "9 8 8", "0 9 | 0 1 | 2 9", "0 9 9", 17)
	shared(t, "9 8 7 7", "0 9 | 0 1 | 0 9 | 2 9", "0 9 17 9", 24)
	shared(t, "9 8 7 7 1", "0 9 | 0 1 | 0 9 | 2 9 | 2 9", "0 9 17 9 16", 24)
	shared(t, "9 8 7 7 2", "0 9 | 0 1 | 0 9 | 2 9 | 2 9", "0 9 17 9 24", 26)
}

// A place behind a long one that ends last, though others begin behind it.
func TestThingsOnePlaceAboveAnother(t *testing.T) {
	t.Parallel()
	shared(t, "10 4 3", "0 1 | 2 3 | 1 2", "0 0 10", 13)
	shared(t, "10 6 4 3", "0 1 | 2 3 | 2 3 | 1 2", "0 0 6 10", 13)
	shared(t, "10 6 6 3", "0 1 | 2 3 | 2 3 | 1 2", "0 0 6 12", 15)
	shared(t, "20 10 5 3", "0 1 | 2 3 | 2 3 | 1 2", "0 0 10 20", 23)
	shared(t, "20 10 5 4 3", "0 1 | 2 3 | 2 3 | 1 2 | 2 2", "0 0 10 20 15", 24)
}

func TestSizesOfThings(t *testing.T) {
	t.Parallel()
	for _, size := range []int{1, 2, 4095, 4096} {
		if got, all, ok := impl.ShareRoom([]int{size, 1}, spansFrom("1 2 | 0 1")); !ok || all != size+1 || got[0]+got[1] != size {
			t.Errorf("a thing of %d bytes: %v, %d, %v", size, got, all, ok)
		}
	}
	for _, size := range slices.Concat(farInts, []int{0, 4097, 8192}) {
		notShared(t, []int{size}, spansFrom("0 0"))
		notShared(t, []int{5, size}, spansFrom("0 0 | 0 0"))
		notShared(t, []int{size, 5}, spansFrom("0 0 | 0 0"))
	}
}

func TestSpansOfThings(t *testing.T) {
	t.Parallel()
	numbers := slices.Concat(farInts, []int{0, 1, 2, 999, 1000, 1001})
	for _, first := range numbers {
		for _, last := range numbers {
			good := first >= 0 && first <= last && last <= 1000
			if got := heldShare(t, []int{3, 4}, [][]int{{5, 6}, {first, last}}); got != good {
				t.Errorf("a span from %d to %d: %v", first, last, got)
			}
			if !good {
				notShared(t, []int{3}, [][]int{{first, last}})
				notShared(t, []int{3, 4}, [][]int{{first, last}, {0, 0}})
			}
		}
	}
	for _, span := range [][]int{nil, {}, {0}, {5}, {0, 0, 0}, {0, 1, 2}, {1, 2, 3, 4}, make([]int, 1<<16)} {
		notShared(t, []int{3}, [][]int{span})
		notShared(t, []int{3, 4}, [][]int{{0, 1}, span})
		notShared(t, []int{3, 4}, [][]int{span, {0, 1}})
	}
}

func TestAsManySpansAsSizes(t *testing.T) {
	t.Parallel()
	for sizes := range 28 {
		for spans := range 28 {
			bytes, times := slices.Repeat([]int{2}, sizes), slices.Repeat([][]int{{3, 4}}, spans)
			got, all, ok := impl.ShareRoom(bytes, times)
			if good := sizes == spans && sizes <= 24; ok != good || good && (len(got) != sizes || all != 2*sizes) || !good && (len(got) > 0 || all != 0) {
				t.Errorf("%d sizes and %d spans: %v, %d, %v", sizes, spans, got, all, ok)
			}
		}
	}
	for _, sizes := range [][]int{nil, {}} {
		for _, spans := range [][][]int{nil, {}} {
			if got, all, ok := impl.ShareRoom(sizes, spans); !ok || all != 0 || len(got) > 0 {
				t.Errorf("no thing: %v, %d, %v", got, all, ok)
			}
		}
	}
	notShared(t, nil, [][]int{{0, 0}})
	notShared(t, nil, [][]int{nil})
	notShared(t, []int{1}, nil)
	notShared(t, make([]int, 1<<16), make([][]int, 1<<16))
	notShared(t, []int{math.MaxInt, math.MaxInt}, [][]int{{0, 0}, {0, 0}})
}

// All at one time stand one behind the other, none at one time all at 0.
func TestAllAndNoneAtOneTime(t *testing.T) {
	t.Parallel()
	sizes, all, none := []int{}, [][]int{}, [][]int{}
	for n := range 24 {
		sizes = append(sizes, 4096-n)
		all = append(all, []int{n, 30})
		none = append(none, []int{2 * n, 2*n + 1})
	}
	got, end, ok := impl.ShareRoom(sizes, all)
	next := 0
	for n, size := range sizes {
		if !ok || got[n] != next {
			t.Fatalf("all at one time: %v, %v", got, ok)
		}
		next += size
	}
	if end != next || end <= 4096 {
		t.Errorf("all at one time need %d bytes", end)
	}
	got, end, ok = impl.ShareRoom(sizes, none)
	if !ok || end != 4096 || !slices.Equal(got, make([]int, 24)) {
		t.Errorf("none at one time: %v, %d, %v", got, end, ok)
	}
}
