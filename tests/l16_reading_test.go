package tests

import (
	"fmt"
	"math"
	"slices"
	"testing"

	"loop.example/g00053/impl"
)

// What is read from textures, at the edges that chapter 16 names, written out.

// small: 4 by 2 greys, and its mips.
func small() impl.Texture { return textureWith(4, 2, 1, "0 1 2 3 10 11 12 13|6 8|7") }

// fetches: the grey that is read.
func fetches(t *testing.T, x impl.Texture, level, atX, atY, edge, want int) {
	t.Helper()
	// a border that is not good does not count here
	for _, border := range []impl.Color{{}, colorOf(1, 2, 3, 4), colorOf(-1, 256, math.MinInt, math.MaxInt)} {
		if got, ok := impl.FetchColor(x, level, atX, atY, edge, border); got != greyOf(want) || !ok {
			t.Errorf("FetchColor(%v, %d, %d, %d, %d, %v) = %v, %v, want %d", x, level, atX, atY, edge, border, got, ok, want)
		}
		heldFetch(t, x, level, atX, atY, edge, border)
	}
}

func TestFetchedWithin(t *testing.T) {
	t.Parallel()
	for edge := 1; edge <= 3; edge++ {
		for at := range 8 {
			fetches(t, small(), 0, at%4, at/4, edge, at%4+10*(at/4))
		}
		fetches(t, small(), 1, 0, 0, edge, 6)
		fetches(t, small(), 1, 1, 0, edge, 8)
		fetches(t, small(), 2, 0, 0, edge, 7)
	}
	short := textureWith(2, 1, 3, "0 248 224 7|16 132")
	full := textureWith(1, 2, 2, "1 2 3 4 5 6 7 8|9 10 11 12")
	for edge := 1; edge <= 4; edge++ {
		for _, x := range []struct {
			impl.Texture
			level, x, y int
			want        impl.Color
		}{
			{short, 0, 0, 0, colorOf(255, 0, 0, 255)},
			{short, 0, 1, 0, colorOf(0, 255, 0, 255)},
			{short, 1, 0, 0, colorOf(132, 130, 132, 255)},
			{full, 0, 0, 0, colorOf(1, 2, 3, 4)},
			{full, 0, 0, 1, colorOf(5, 6, 7, 8)},
			{full, 1, 0, 0, colorOf(9, 10, 11, 12)},
		} {
			if got, ok := impl.FetchColor(x.Texture, x.level, x.x, x.y, edge, impl.Color{}); got != x.want || !ok {
				t.Errorf("%v at level %d, %d, %d: %v, %v", x.Texture, x.level, x.x, x.y, got, ok)
			}
		}
	}
}

func TestClamped(t *testing.T) {
	t.Parallel()
	for _, far := range []int{1, 2, 3, 4, 7, 8, 100, 1 << 40, math.MaxInt} {
		fetches(t, small(), 0, -far, 0, 1, 0)
		fetches(t, small(), 0, -far, 1, 1, 10)
		fetches(t, small(), 0, 2, -far, 1, 2)
		fetches(t, small(), 0, -far, -far, 1, 0)
		fetches(t, small(), 1, -far, -far, 1, 6)
		fetches(t, small(), 2, -far, far, 1, 7)
	}
	for _, far := range []int{4, 5, 7, 8, 100, 1 << 40, math.MaxInt} {
		fetches(t, small(), 0, far, 0, 1, 3)
		fetches(t, small(), 0, far, 1, 1, 13)
		fetches(t, small(), 0, 2, far, 1, 12)
		fetches(t, small(), 0, far, far, 1, 13)
		fetches(t, small(), 1, far, far, 1, 8)
		fetches(t, small(), 2, far, far, 1, 7)
	}
	fetches(t, small(), 0, math.MinInt, math.MaxInt, 1, 10)
	fetches(t, small(), 0, math.MaxInt, math.MinInt, 1, 3)
	fetches(t, small(), 0, 1, 2, 1, 11)
	fetches(t, small(), 1, 2, 1, 1, 8)
}

func TestRepeated(t *testing.T) {
	t.Parallel()
	for at, want := range map[int]int{-9: 3, -8: 0, -5: 3, -4: 0, -3: 1, -2: 2, -1: 3, 4: 0, 5: 1, 6: 2, 7: 3, 8: 0, 1 << 40: 0, 1<<40 - 1: 3, math.MinInt: 0, math.MinInt + 1: 1, math.MaxInt: 3, math.MaxInt - 1: 2} {
		fetches(t, small(), 0, at, 0, 2, want)
		fetches(t, small(), 0, at, 1, 2, want+10)
		fetches(t, small(), 1, at, 0, 2, 6+want%2*2)
		fetches(t, small(), 1, at, at, 2, 6+want%2*2)
		fetches(t, small(), 0, 2, at, 2, 2+want%2*10)
		fetches(t, small(), 0, at, at, 2, want+want%2*10)
		fetches(t, small(), 2, at, -at, 2, 7)
	}
}

func TestMirrored(t *testing.T) {
	t.Parallel()
	for at, want := range map[int]int{-12: 3, -9: 0, -8: 0, -7: 1, -6: 2, -5: 3, -4: 3, -3: 2, -2: 1, -1: 0, 4: 3, 5: 2, 6: 1, 7: 0, 8: 0, 9: 1, 11: 3, 12: 3, 15: 0, 16: 0, math.MinInt: 0, math.MinInt + 1: 1, math.MinInt + 4: 3, math.MaxInt: 0, math.MaxInt - 1: 1, math.MaxInt - 3: 3, math.MaxInt - 4: 3} {
		fetches(t, small(), 0, at, 0, 3, want)
		fetches(t, small(), 0, at, 1, 3, want+10)
		fetches(t, small(), 2, at, at, 3, 7)
	}
	for at, want := range map[int]int{-5: 0, -4: 0, -3: 1, -2: 1, -1: 0, 2: 1, 3: 0, 4: 0, 5: 1, 6: 1, 7: 0, math.MinInt: 0, math.MinInt + 2: 1, math.MaxInt: 0, math.MaxInt - 1: 1} {
		fetches(t, small(), 0, 3, at, 3, 3+10*want)
		fetches(t, small(), 1, at, 0, 3, 6+2*want)
		fetches(t, small(), 1, at, at, 3, 6+2*want)
	}
}

func TestBordered(t *testing.T) {
	t.Parallel()
	x := small()
	for _, border := range []impl.Color{{}, colorOf(1, 2, 3, 4), colorOf(255, 255, 255, 255), colorOf(0, 255, 0, 255)} {
		for level, shape := range shapesOf(4, 2) {
			for _, atX := range []int{math.MinInt, -1 << 40, -5, -4, -2, -1, 0, 1, 2, 3, 4, 5, 8, 1 << 40, math.MaxInt} {
				for _, atY := range []int{math.MinInt, -4, -2, -1, 0, 1, 2, 3, 4, math.MaxInt} {
					want := border
					if atX >= 0 && atX < shape[0] && atY >= 0 && atY < shape[1] {
						want = greyOf(int(x.Levels[level][atY*shape[0]+atX]))
					}
					if got, ok := impl.FetchColor(x, level, atX, atY, 4, border); got != want || !ok {
						t.Errorf("FetchColor(%v, %d, %d, %d, 4, %v) = %v, %v", x, level, atX, atY, border, got, ok)
					}
				}
			}
		}
	}
}

// nothingRead: no color by these, whatever is asked.
func nothingRead(t *testing.T, x impl.Texture, level, edge int, border impl.Color) {
	t.Helper()
	for _, at := range []int{0, 1, -1, 100, math.MinInt, math.MaxInt} {
		if got, ok := impl.FetchColor(x, level, at, at, edge, border); ok || got != (impl.Color{}) {
			t.Errorf("FetchColor(%v, %d, %d, %d, %d, %v) = %v, %v", x, level, at, at, edge, border, got, ok)
		}
		if got, ok := impl.SampleColor(x, level, at, at, edge, border); ok || got != (impl.Color{}) {
			t.Errorf("SampleColor(%v, %d, %d, %d, %d, %v) = %v, %v", x, level, at, at, edge, border, got, ok)
		}
		if got, ok := impl.SampleBetween(x, 256*level, at, at, edge, border); ok || got != (impl.Color{}) {
			t.Errorf("SampleBetween(%v, %d, %d, %d, %d, %v) = %v, %v", x, 256*level, at, at, edge, border, got, ok)
		}
	}
}

// With EdgeBorder the border is looked at, also for places within.
func TestBordersThatAreNotGood(t *testing.T) {
	t.Parallel()
	for _, wrong := range wrongColors() {
		for level := range 3 {
			nothingRead(t, small(), level, 4, wrong)
		}
		for edge := 1; edge <= 3; edge++ {
			if got, ok := impl.SampleColor(small(), 0, 128, 128, edge, wrong); got != greyOf(0) || !ok {
				t.Errorf("by edge %d with %v: %v, %v", edge, wrong, got, ok)
			}
			if got, ok := impl.SampleBetween(small(), 512, 128, 128, edge, wrong); got != greyOf(7) || !ok {
				t.Errorf("by edge %d with %v: %v, %v", edge, wrong, got, ok)
			}
		}
	}
}

func TestNoEdges(t *testing.T) {
	t.Parallel()
	for _, edge := range noEdges {
		for level := -1; level <= 3; level++ {
			nothingRead(t, small(), level, edge, impl.Color{})
			nothingRead(t, small(), level, edge, colorOf(-1, 0, 0, 0))
		}
	}
}

func TestNoLevels(t *testing.T) {
	t.Parallel()
	one := textureWith(1, 1, 1, "9")
	for _, level := range slices.Concat([]int{-2, -1, 3, 4, 5, 16, 255, 256}, farInts) {
		for edge := 1; edge <= 4; edge++ {
			for _, at := range []int{0, 1, -1, math.MaxInt} {
				for _, x := range []impl.Texture{small(), one} {
					got, ok := impl.FetchColor(x, level, at, at, edge, impl.Color{})
					sampled, is := impl.SampleColor(x, level, 0, 0, edge, impl.Color{})
					if ok || is || got != (impl.Color{}) || sampled != (impl.Color{}) {
						t.Errorf("level %d: %v, %v, %v, %v", level, got, ok, sampled, is)
					}
				}
			}
		}
	}
	for level := 1; level <= 3; level++ {
		if got, ok := impl.FetchColor(one, level, 0, 0, 1, impl.Color{}); ok || got != (impl.Color{}) {
			t.Errorf("level %d of one: %v, %v", level, got, ok)
		}
	}
}

// samples: the grey that is read.
func samples(t *testing.T, x impl.Texture, level, u, v, edge, want int) {
	t.Helper()
	for _, border := range []impl.Color{{}, colorOf(-1, 256, 0, 0)} {
		if got, ok := impl.SampleColor(x, level, u, v, edge, border); got != greyOf(want) || !ok {
			t.Errorf("SampleColor(%v, %d, %d, %d, %d, %v) = %v, %v, want %d", x, level, u, v, edge, border, got, ok, want)
		}
		heldSample(t, x, level, u, v, edge, border)
	}
}

// square: 2 by 2 greys.
func square() impl.Texture { return textureWith(2, 2, 1, "0 100 200 100|50") }

func TestSampledAtPoints(t *testing.T) {
	t.Parallel()
	for edge := 1; edge <= 3; edge++ {
		for at := range 8 {
			samples(t, small(), 0, 256*(at%4)+128, 256*(at/4)+128, edge, at%4+10*(at/4))
		}
		samples(t, small(), 1, 128, 128, edge, 6)
		samples(t, small(), 1, 384, 128, edge, 8)
		samples(t, small(), 2, 128, 128, edge, 7)
	}
	for edge, want := range [][2]int{1: {0, 3}, 2: {3, 0}, 3: {0, 3}} {
		if edge > 0 {
			samples(t, small(), 0, -128, 128, edge, want[0])
			samples(t, small(), 0, 1024+128, 128, edge, want[1])
		}
	}
}

func TestSampledBetween(t *testing.T) {
	t.Parallel()
	for edge := 1; edge <= 3; edge++ {
		samples(t, square(), 0, 256, 128, edge, 50)
		samples(t, square(), 0, 256, 384, edge, 150)
		samples(t, square(), 0, 128, 256, edge, 100)
		samples(t, square(), 0, 384, 256, edge, 100)
		samples(t, square(), 0, 256, 256, edge, 100)
		samples(t, square(), 0, 192, 128, edge, 25)
		samples(t, square(), 0, 192, 192, edge, 63)
		samples(t, square(), 0, 320, 192, edge, 88)
		samples(t, square(), 0, 192, 320, edge, 138)
		samples(t, square(), 1, 0, 0, edge, 50)
		samples(t, square(), 1, 300, -700, edge, 50)
	}
	// each part for itself
	full := textureWith(2, 1, 2, "0 10 20 30 100 110 0 255|0 0 0 0")
	if got, ok := impl.SampleColor(full, 0, 128+64, 128, 1, impl.Color{}); got != colorOf(25, 35, 15, 86) || !ok {
		t.Errorf("%v, %v", got, ok)
	}
	short := textureWith(1, 2, 3, "255 255 0 0|0 0")
	if got, ok := impl.SampleColor(short, 0, 128, 256, 1, impl.Color{}); got != colorOf(128, 128, 128, 255) || !ok {
		t.Errorf("%v, %v", got, ok)
	}
}

// Half up: just a half, and one step less.
func TestSamplesAreHalfUp(t *testing.T) {
	t.Parallel()
	wide, high := textureWith(2, 1, 1, "0 1|0"), textureWith(1, 2, 1, "0 1|0")
	back := textureWith(2, 1, 1, "255 254|0")
	for edge := 1; edge <= 3; edge++ {
		samples(t, wide, 0, 255, 128, edge, 0)
		samples(t, wide, 0, 256, 128, edge, 1)
		samples(t, high, 0, 128, 255, edge, 0)
		samples(t, high, 0, 128, 256, edge, 1)
		samples(t, back, 0, 256, 128, edge, 255)
		samples(t, back, 0, 257, 128, edge, 254)
	}
	// one of four: by how far along times how far across
	corner := textureWith(2, 2, 1, "0 0 0 1|0")
	samples(t, corner, 0, 128+128, 128+255, 1, 0)
	samples(t, corner, 0, 128+182, 128+181, 1, 1)
	samples(t, corner, 0, 128+181, 128+181, 1, 0)
}

// Below 128 the one ahead has a part, below 0 all of it lies beyond.
func TestSampledBelow(t *testing.T) {
	t.Parallel()
	for _, x := range []struct{ u, clamp, repeat, mirror int }{
		{127, 0, 0, 0}, {64, 0, 25, 0}, {0, 0, 50, 0}, {-1, 0, 50, 0}, {-2, 0, 51, 0}, {-64, 0, 75, 0}, {-128, 0, 100, 0}, {-129, 0, 100, 0},
		{-256, 0, 50, 50}, {-384, 0, 0, 100}, {-640, 0, 100, 100}, {-896, 0, 0, 0},
		{385, 100, 100, 100}, {448, 100, 75, 100}, {512, 100, 50, 100}, {640, 100, 0, 100}, {768, 100, 50, 50}, {896, 100, 100, 0},
	} {
		for edge, want := range []int{1: x.clamp, 2: x.repeat, 3: x.mirror} {
			if edge > 0 {
				samples(t, square(), 0, x.u, 128, edge, want)
				samples(t, textureWith(1, 2, 1, "0 100|50"), 0, 128, x.u, edge, want)
			}
		}
	}
}

func TestFarthestSamples(t *testing.T) {
	t.Parallel()
	for edge, want := range [][2]int{1: {0, 100}, 2: {88, 13}, 3: {88, 88}} {
		if edge > 0 {
			samples(t, square(), 0, -100000, 128, edge, want[0])
			samples(t, square(), 0, 100000, 128, edge, want[1])
			samples(t, textureWith(1, 2, 1, "0 100|50"), 0, 128, -100000, edge, want[0])
			samples(t, textureWith(1, 2, 1, "0 100|50"), 0, 128, 100000, edge, want[1])
		}
	}
	for edge := 1; edge <= 4; edge++ {
		for _, far := range slices.Concat([]int{-100001, 100001, -100002, 100002, 1 << 20}, wrongPlaces) {
			if far >= -100000 && far <= 100000 {
				continue
			}
			for _, at := range [][2]int{{far, 0}, {0, far}, {far, far}, {far, 100000}, {-100000, far}} {
				got, ok := impl.SampleColor(square(), 0, at[0], at[1], edge, impl.Color{})
				mixed, is := impl.SampleBetween(square(), 0, at[0], at[1], edge, impl.Color{})
				deep, deepIs := impl.SampleBetween(square(), 256, at[0], at[1], edge, impl.Color{})
				if ok || is || deepIs || got != (impl.Color{}) || mixed != (impl.Color{}) || deep != (impl.Color{}) {
					t.Errorf("at %v: %v, %v, %v", at, got, mixed, deep)
				}
			}
		}
		for _, at := range [][2]int{{-100000, -100000}, {100000, 100000}, {-100000, 100000}} {
			if !heldSample(t, square(), 0, at[0], at[1], edge, impl.Color{}) || !heldBetween(t, square(), 256, at[0], at[1], edge, impl.Color{}) {
				t.Errorf("%v is too far", at)
			}
		}
	}
}

// The border's color has a part in what lies between it and the sides.
func TestSampledAtTheBorder(t *testing.T) {
	t.Parallel()
	border := colorOf(200, 100, 50, 3)
	for _, x := range []struct {
		u, v int
		want impl.Color
	}{
		{128, 128, greyOf(0)},
		{0, 128, colorOf(100, 50, 25, 129)},
		{128, 0, colorOf(100, 50, 25, 129)},
		{64, 128, colorOf(50, 25, 13, 192)},
		{0, 0, colorOf(150, 75, 38, 66)},
		{-128, 128, border},
		{-127, 128, colorOf(199, 100, 50, 4)},
		{-129, 128, border},
		{128, -128, border},
		{640, 128, border},
		{512, 128, colorOf(150, 100, 75, 129)},
		{128, 512, colorOf(200, 150, 125, 129)},
		{512, 512, colorOf(175, 100, 63, 66)},
		{-100000, 100000, border},
		{100000, 100000, border},
		{384, 384, greyOf(100)},
	} {
		if got, ok := impl.SampleColor(square(), 0, x.u, x.v, 4, border); got != x.want || !ok {
			t.Errorf("SampleColor at %d, %d = %v, %v, want %v", x.u, x.v, got, ok, x.want)
		}
		heldSample(t, square(), 0, x.u, x.v, 4, border)
	}
	// half of level 0, of which half is the border's, half of level 1, of which five eighths are
	if got, ok := impl.SampleBetween(square(), 128, 0, 128, 4, border); got != colorOf(122, 66, 38, 114) || !ok {
		t.Errorf("%v, %v", got, ok)
	}
}

// mixes: the grey that is read between levels.
func mixes(t *testing.T, x impl.Texture, lod, u, v, edge, want int) {
	t.Helper()
	for _, border := range []impl.Color{{}, colorOf(0, 0, 0, -1)} {
		if got, ok := impl.SampleBetween(x, lod, u, v, edge, border); got != greyOf(want) || !ok {
			t.Errorf("SampleBetween(%v, %d, %d, %d, %d, %v) = %v, %v, want %d", x, lod, u, v, edge, border, got, ok, want)
		}
		heldBetween(t, x, lod, u, v, edge, border)
	}
}

func TestSampledBetweenLevels(t *testing.T) {
	t.Parallel()
	x := textureWith(4, 1, 1, "0 0 0 0|100 100|200")
	for edge := 1; edge <= 3; edge++ {
		for lod, want := range map[int]int{0: 0, 1: 0, 2: 1, 64: 25, 128: 50, 255: 100, 256: 100, 257: 100, 258: 101, 320: 125, 384: 150, 511: 200, 512: 200} {
			mixes(t, x, lod, 128, 128, edge, want)
			mixes(t, x, lod, -700, 5000, edge, want)
		}
		// a half goes up
		less := textureWith(2, 1, 1, "0 0|1")
		mixes(t, less, 127, 128, 128, edge, 0)
		mixes(t, less, 128, 128, 128, edge, 1)
		more := textureWith(2, 1, 1, "1 1|0")
		mixes(t, more, 128, 128, 128, edge, 1)
		mixes(t, more, 129, 128, 128, edge, 0)
	}
	full := textureWith(2, 1, 2, "0 10 20 30 0 10 20 30|100 110 0 255")
	if got, ok := impl.SampleBetween(full, 64, 256, 128, 1, impl.Color{}); got != colorOf(25, 35, 15, 86) || !ok {
		t.Errorf("%v, %v", got, ok)
	}
}

// u and v are those of level 0: halved for each further level, down.
func TestSampledPlacesOfFurtherLevels(t *testing.T) {
	t.Parallel()
	x := textureWith(4, 1, 1, "0 0 0 0|0 200|90")
	for u, want := range map[int]int{256: 0, 257: 0, 258: 1, 512: 100, 513: 100, 514: 101, 768: 200, 0: 100, 1: 100, -1: 101, -2: 101, -3: 102, -4: 102, -256: 200, -257: 199, -258: 199, 1024: 100, 1025: 100, 1022: 101, 1023: 101} {
		mixes(t, x, 256, u, 0, 2, want)
		mixes(t, x, 256, u, -9, 2, want)
		mixes(t, x, 384, u, 128, 2, (want+90+1)/2)
		mixes(t, textureWith(1, 4, 1, "0 0 0 0|0 200|90"), 256, 77, u, 2, want)
	}
	// at level 2 by four, at the one ahead by two
	deep := textureWith(8, 1, 1, "0 0 0 0 0 0 0 0|0 0 0 0|0 200|0")
	for u, want := range map[int]int{-1: 101, -4: 101, -5: 102, -8: 102, 0: 100, 3: 100, 4: 99, 7: 99, 8: 98} {
		mixes(t, deep, 512, u, 0, 2, want)
	}
	both := textureWith(8, 1, 1, "0 0 0 0 0 0 0 0|0 0 0 200|0 200|0")
	for u, want := range map[int]int{-1: 101, -3: 102, -8: 103, 0: 100} {
		mixes(t, both, 384, u, 0, 2, want)
	}
}

func TestFirstAndLastLods(t *testing.T) {
	t.Parallel()
	for _, sides := range [][2]int{{1, 1}, {2, 1}, {1, 2}, {2, 2}, {4, 1}, {8, 2}, {1, 16}, {16, 16}} {
		x, _ := impl.WithMips(sides[0], sides[1], 1, make([]impl.Color, sides[0]*sides[1]))
		last := 256 * (len(shapesOf(sides[0], sides[1])) - 1)
		for edge := 1; edge <= 4; edge++ {
			for _, lod := range slices.Concat([]int{-257, -256, -255, -1, last + 1, last + 255, last + 256, last + 257}, farInts) {
				if got, ok := impl.SampleBetween(x, lod, 128, 128, edge, impl.Color{}); ok || got != (impl.Color{}) {
					t.Errorf("%v by %d: %v, %v", sides, lod, got, ok)
				}
			}
			for lod := 0; lod <= last; lod++ {
				if got, ok := impl.SampleBetween(x, lod, 128, 128, edge, colorOf(0, 0, 0, 255)); got != greyOf(0) || !ok {
					t.Errorf("%v by %d: %v, %v", sides, lod, got, ok)
				}
			}
		}
	}
}

// At a whole level it is the sample of that level.
func TestWholeLevels(t *testing.T) {
	t.Parallel()
	c := newChance(293)
	for range 1000 {
		x := c.anyMips()
		for level := range x.Levels {
			for edge := 1; edge <= 4; edge++ {
				u, v, border := c.somePoint(x.Wide), c.somePoint(x.High), c.color()
				want, is := impl.SampleColor(x, level, u>>level, v>>level, edge, border)
				if got, ok := impl.SampleBetween(x, 256*level, u, v, edge, border); got != want || !ok || !is {
					t.Errorf("%s: %v, %v, want %v", fmt.Sprint(x, level, u, v, edge), got, ok, want)
				}
			}
		}
	}
}
