package tests

import (
	"bytes"
	"slices"
	"testing"

	"loop.example/g00053/impl"
)

func sameTexture(a, b impl.Texture) bool {
	return a.Wide == b.Wide && a.High == b.High && a.Format == b.Format && slices.EqualFunc(a.Levels, b.Levels, bytes.Equal)
}

// Each heldX: a function answers, at any arguments, as it is worked out another way;
// whether these are as said.

func heldColor(t *testing.T, c impl.Color) bool {
	t.Helper()
	want := wantColor(c)
	if got := impl.GoodColor(c); got != want {
		t.Errorf("GoodColor(%v) = %v", c, got)
	}
	return want
}

func heldPack(t *testing.T, format int, c impl.Color) bool {
	t.Helper()
	want := wantPack(format, c)
	if got := impl.PackColor(format, c); !bytes.Equal(got, want) {
		t.Errorf("PackColor(%d, %v) = %v, want %v", format, c, got, want)
	}
	return len(want) > 0
}

func heldUnpack(t *testing.T, format int, data []byte) bool {
	t.Helper()
	want, good := wantUnpack(format, data)
	if got, ok := impl.UnpackColor(format, data); got != want || ok != good {
		t.Errorf("UnpackColor(%d, %v) = %v, %v, want %v, %v", format, briefly(data), got, ok, want, good)
	}
	return good
}

func heldTexture(t *testing.T, x impl.Texture) bool {
	t.Helper()
	want := wantTexture(x)
	if got := impl.GoodTexture(x); got != want {
		t.Errorf("GoodTexture(%v) = %v", x, got)
	}
	return want
}

func heldMips(t *testing.T, wide, high, format int, colors []impl.Color) bool {
	t.Helper()
	want, good := wantMips(wide, high, format, colors)
	if got, ok := impl.WithMips(wide, high, format, colors); !sameTexture(got, want) || ok != good || impl.GoodTexture(got) != good {
		t.Errorf("WithMips(%d, %d, %d, %v) = %v, %v, want %v, %v", wide, high, format, briefly(colors), got, ok, want, good)
	}
	return good
}

func heldFetch(t *testing.T, x impl.Texture, level, atX, atY, edge int, border impl.Color) bool {
	t.Helper()
	want, good := wantFetch(x, level, atX, atY, edge, border)
	if got, ok := impl.FetchColor(x, level, atX, atY, edge, border); got != want || ok != good {
		t.Errorf("FetchColor(%v, %d, %d, %d, %d, %v) = %v, %v, want %v, %v", x, level, atX, atY, edge, border, got, ok, want, good)
	}
	return good
}

func heldSample(t *testing.T, x impl.Texture, level, u, v, edge int, border impl.Color) bool {
	t.Helper()
	want, good := wantSample(x, level, u, v, edge, border)
	if got, ok := impl.SampleColor(x, level, u, v, edge, border); got != want || ok != good {
		t.Errorf("SampleColor(%v, %d, %d, %d, %d, %v) = %v, %v, want %v, %v", x, level, u, v, edge, border, got, ok, want, good)
	}
	return good
}

func heldBetween(t *testing.T, x impl.Texture, lod, u, v, edge int, border impl.Color) bool {
	t.Helper()
	want, good := wantBetween(x, lod, u, v, edge, border)
	if got, ok := impl.SampleBetween(x, lod, u, v, edge, border); got != want || ok != good {
		t.Errorf("SampleBetween(%v, %d, %d, %d, %d, %v) = %v, %v, want %v, %v", x, lod, u, v, edge, border, got, ok, want, good)
	}
	return good
}

// colorPart: often one at the ends.
func (c chance) colorPart() int {
	return c.oneOf(0, 1, 127, 128, 254, 255, c.Intn(256), c.Intn(256), c.Intn(256), c.Intn(256))
}

func (c chance) color() impl.Color {
	return colorOf(c.colorPart(), c.colorPart(), c.colorPart(), c.colorPart())
}

func (c chance) colors(n int) []impl.Color {
	var l []impl.Color
	for range n {
		l = append(l, c.color())
	}
	return l
}

func (c chance) side() int { return c.oneOf(1, 2, 4, 8, 16) }

// anyMips: a good texture whose further levels are no mips of the first one, so that
// it can be told which level is read.
func (c chance) anyMips() impl.Texture {
	t := impl.Texture{Wide: c.side(), High: c.side(), Format: 1 + c.Intn(3)}
	for _, shape := range shapesOf(t.Wide, t.High) {
		t.Levels = append(t.Levels, c.bytes(bytesEach(t.Format)*shape[0]*shape[1]))
	}
	return t
}

// someTexture: of either kind.
func (c chance) someTexture() impl.Texture {
	if c.Intn(2) == 0 {
		return c.anyMips()
	}
	wide, high := c.side(), c.side()
	t, _ := wantMips(wide, high, 1+c.Intn(3), c.colors(wide*high))
	return t
}

// someAt: within a side, close to it or far off.
func (c chance) someAt(side int) int {
	return c.oneOf(c.Intn(side), c.Intn(side), -1-c.Intn(3*side), side+c.Intn(3*side), c.Intn(1000)-500, int(c.Uint64()))
}

// somePoint: at a color's point, between two, or anywhere.
func (c chance) somePoint(side int) int {
	at := c.oneOf(c.Intn(side), c.Intn(side), c.Intn(5*side)-2*side)
	return c.oneOf(256*at+128, 256*at, 256*at+c.Intn(256), 256*at+c.Intn(256), c.Intn(200001)-100000, -100000, 100000)
}

func TestEveryColorOfTwoBytes(t *testing.T) {
	t.Parallel()
	for number := range 65536 {
		if !heldUnpack(t, impl.FmtShort, []byte{byte(number), byte(number >> 8)}) {
			t.Errorf("number %d is not taken", number)
		}
	}
}

func TestPackingDrawnColors(t *testing.T) {
	t.Parallel()
	c := newChance(286)
	for range 20000 {
		color := c.color()
		for format := 1; format <= 3; format++ {
			if !heldColor(t, color) || !heldPack(t, format, color) || !heldUnpack(t, format, c.bytes(bytesEach(format))) {
				t.Errorf("%v is not taken", color)
			}
		}
	}
}

func TestMipsOfDrawnColors(t *testing.T) {
	t.Parallel()
	c := newChance(287)
	for range 1500 {
		wide, high := c.side(), c.side()
		if !heldMips(t, wide, high, 1+c.Intn(3), c.colors(wide*high)) {
			t.Errorf("%d by %d is not taken", wide, high)
		}
	}
}

func TestFetchingFromDrawnTextures(t *testing.T) {
	t.Parallel()
	c := newChance(288)
	for range 6000 {
		x := c.someTexture()
		level := c.Intn(len(x.Levels))
		shape := shapesOf(x.Wide, x.High)[level]
		for edge := 1; edge <= 4; edge++ {
			if !heldTexture(t, x) || !heldFetch(t, x, level, c.someAt(shape[0]), c.someAt(shape[1]), edge, c.color()) {
				t.Errorf("%v is not taken", x)
			}
		}
	}
}

// All places in and around each level of textures of all sides.
func TestFetchingAllAround(t *testing.T) {
	t.Parallel()
	c := newChance(289)
	for _, sides := range [][2]int{{1, 1}, {2, 2}, {4, 1}, {1, 4}, {2, 8}, {8, 4}} {
		x, _ := wantMips(sides[0], sides[1], impl.FmtFull, c.colors(sides[0]*sides[1]))
		border := c.color()
		for level, shape := range shapesOf(x.Wide, x.High) {
			for atY := -2*shape[1] - 1; atY <= 3*shape[1]; atY++ {
				for atX := -2*shape[0] - 1; atX <= 3*shape[0]; atX++ {
					for edge := 1; edge <= 4; edge++ {
						heldFetch(t, x, level, atX, atY, edge, border)
					}
				}
			}
		}
	}
}

func TestSamplingDrawnTextures(t *testing.T) {
	t.Parallel()
	c := newChance(290)
	for range 6000 {
		x := c.someTexture()
		level := c.Intn(len(x.Levels))
		shape := shapesOf(x.Wide, x.High)[level]
		for edge := 1; edge <= 4; edge++ {
			if !heldSample(t, x, level, c.somePoint(shape[0]), c.somePoint(shape[1]), edge, c.color()) {
				t.Errorf("%v is not taken", x)
			}
		}
	}
}

func TestSamplingBetweenLevelsOfDrawnTextures(t *testing.T) {
	t.Parallel()
	c := newChance(291)
	for range 6000 {
		x := c.someTexture()
		last := 256 * (len(x.Levels) - 1)
		for edge := 1; edge <= 4; edge++ {
			lod := c.oneOf(0, last, 256*c.Intn(len(x.Levels)), c.Intn(last+1), c.Intn(last+1), c.Intn(last+1))
			if !heldBetween(t, x, lod, c.somePoint(x.Wide), c.somePoint(x.High), edge, c.color()) {
				t.Errorf("%v is not taken", x)
			}
		}
	}
}

// Every step from one color to the next one, and beyond the sides, along and across.
func TestSamplingEveryStep(t *testing.T) {
	t.Parallel()
	c := newChance(292)
	x, _ := wantMips(2, 4, impl.FmtFull, c.colors(8))
	border := c.color()
	for edge := 1; edge <= 4; edge++ {
		for at := -700; at <= 1700; at++ {
			heldSample(t, x, 0, at, 300, edge, border)
			heldSample(t, x, 0, 300, at, edge, border)
			heldSample(t, x, 1, at, at, edge, border)
			heldBetween(t, x, 256+128, at, -at, edge, border)
		}
		for lod := 0; lod <= 512; lod++ {
			heldBetween(t, x, lod, 300, 500, edge, border)
			heldBetween(t, x, lod, -300, -501, edge, border)
		}
	}
}
