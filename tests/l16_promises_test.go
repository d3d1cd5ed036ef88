package tests

import (
	"bytes"
	"math"
	"slices"
	"testing"

	"loop.example/g00053/impl"
)

// Promise 16: a sample at a color's point is that color, within and beyond the sides,
// at each level.
func TestPromise16SamplesAtPoints(t *testing.T) {
	t.Parallel()
	c := newChance(294)
	for range 300 {
		x := c.someTexture()
		border := c.color()
		for level, shape := range shapesOf(x.Wide, x.High) {
			for edge := 1; edge <= 4; edge++ {
				for atY := -3; atY < shape[1]+3; atY++ {
					for atX := -3; atX < shape[0]+3; atX++ {
						want, is := impl.FetchColor(x, level, atX, atY, edge, border)
						if got, ok := impl.SampleColor(x, level, 256*atX+128, 256*atY+128, edge, border); got != want || !ok || !is {
							t.Errorf("%v: level %d at %d, %d by %d: %v, %v, want %v", x, level, atX, atY, edge, got, ok, want)
						}
					}
				}
			}
		}
	}
}

// Promise 16: and between the levels at a whole one, at each place that leads to the
// point there.
func TestPromise16PointsOfLevels(t *testing.T) {
	t.Parallel()
	c := newChance(295)
	for range 1000 {
		x := c.someTexture()
		level := c.Intn(len(x.Levels))
		shape := shapesOf(x.Wide, x.High)[level]
		atX, atY := c.Intn(shape[0]), c.Intn(shape[1])
		u, v := (256*atX+128)<<level+c.Intn(1<<level), (256*atY+128)<<level+c.Intn(1<<level)
		for edge := 1; edge <= 4; edge++ {
			want, _ := impl.FetchColor(x, level, atX, atY, edge, impl.Color{})
			if got, ok := impl.SampleBetween(x, 256*level, u, v, edge, impl.Color{}); got != want || !ok {
				t.Errorf("%v: level %d at %d, %d: %v, %v, want %v", x, level, u, v, got, ok, want)
			}
		}
	}
}

// liesBetween: each part of a color is no less than the least of others, and no more
// than the greatest.
func liesBetween(c impl.Color, others ...impl.Color) bool {
	for at, part := range fourOf(c) {
		var parts []int
		for _, other := range others {
			parts = append(parts, fourOf(other)[at])
		}
		if part < slices.Min(parts) || part > slices.Max(parts) {
			return false
		}
	}
	return true
}

// Promise 16: all others lie between the colors around them.
func TestPromise16SamplesLieBetween(t *testing.T) {
	t.Parallel()
	c := newChance(296)
	unlike := 0
	for range 20000 {
		x := c.someTexture()
		level, edge, border := c.Intn(len(x.Levels)), 1+c.Intn(4), c.color()
		shape := shapesOf(x.Wide, x.High)[level]
		u, v := c.somePoint(shape[0]), c.somePoint(shape[1])
		var around []impl.Color
		for at := range 4 {
			color, _ := impl.FetchColor(x, level, (u-128)>>8+at%2, (v-128)>>8+at/2, edge, border)
			around = append(around, color)
		}
		got, ok := impl.SampleColor(x, level, u, v, edge, border)
		if !ok || !liesBetween(got, around...) {
			t.Errorf("%v: level %d at %d, %d by %d: %v is not between %v", x, level, u, v, edge, got, around)
		}
		if !slices.Contains(around, got) {
			unlike++
		}
	}
	if unlike < 5000 {
		t.Errorf("%d samples are none of the colors around", unlike)
	}
}

// Promise 16: between two levels all lie between their samples.
func TestPromise16LevelsLieBetween(t *testing.T) {
	t.Parallel()
	c := newChance(297)
	unlike := 0
	for range 20000 {
		x := c.someTexture()
		last := 256 * (len(x.Levels) - 1)
		lod, edge, border := c.Intn(last+1), 1+c.Intn(4), c.color()
		u, v := c.somePoint(x.Wide), c.somePoint(x.High)
		near, _ := impl.SampleBetween(x, lod/256*256, u, v, edge, border)
		far, _ := impl.SampleBetween(x, min(last, lod/256*256+256), u, v, edge, border)
		got, ok := impl.SampleBetween(x, lod, u, v, edge, border)
		if !ok || !liesBetween(got, near, far) {
			t.Errorf("%v: %d at %d, %d by %d: %v is not between %v and %v", x, lod, u, v, edge, got, near, far)
		}
		if got != near && got != far {
			unlike++
		}
	}
	if unlike < 5000 {
		t.Errorf("%d samples are of neither level", unlike)
	}
}

// Promise 16: from one color's point to the next one no part turns back.
func TestPromise16NoTurningBack(t *testing.T) {
	t.Parallel()
	c := newChance(298)
	for range 60 {
		x := c.someTexture()
		v, edge, border := c.somePoint(x.High), 1+c.Intn(4), c.color()
		from := 256*(c.Intn(x.Wide+2)-1) + 128
		first, _ := impl.SampleColor(x, 0, from, v, edge, border)
		last, _ := impl.SampleColor(x, 0, from+256, v, edge, border)
		ahead := first
		for u := from; u <= from+256; u++ {
			got, ok := impl.SampleColor(x, 0, u, v, edge, border)
			if !ok || !liesBetween(got, ahead, last) {
				t.Errorf("%v at %d, %d: %v is not between %v and %v", x, u, v, got, ahead, last)
			}
			ahead = got
		}
	}
}

// Levels of one color are of that color all through, if its format keeps it.
func TestPromise16OneColorAllThrough(t *testing.T) {
	t.Parallel()
	c := newChance(299)
	for range 300 {
		format, wide, high := 1+c.Intn(3), c.side(), c.side()
		color, _ := impl.UnpackColor(format, c.bytes(bytesEach(format)))
		x, ok := impl.WithMips(wide, high, format, slices.Repeat([]impl.Color{color}, wide*high))
		if !ok {
			t.Fatalf("%v is not taken", color)
		}
		last := 256 * (len(x.Levels) - 1)
		for range 30 {
			got, _ := impl.SampleBetween(x, c.Intn(last+1), c.somePoint(wide), c.somePoint(high), 1+c.Intn(4), color)
			if got != color {
				t.Errorf("%v has become %v", color, got)
			}
		}
	}
}

// Mips lie between the colors of the level ahead, by FmtFull and FmtGrey.
func TestPromise16MipsLieBetween(t *testing.T) {
	t.Parallel()
	c := newChance(300)
	for range 500 {
		wide, high := c.side(), c.side()
		x, _ := impl.WithMips(wide, high, 1+c.Intn(2), c.colors(wide*high))
		for level, shape := range shapesOf(wide, high)[1:] {
			for atY := range shape[1] {
				for atX := range shape[0] {
					got, _ := impl.FetchColor(x, level+1, atX, atY, 1, impl.Color{})
					var ahead []impl.Color
					for at := range 4 {
						color, _ := impl.FetchColor(x, level, 2*atX+at%2, 2*atY+at/2, 1, impl.Color{})
						ahead = append(ahead, color)
					}
					if !liesBetween(got, ahead...) {
						t.Errorf("%v: %v is not between %v", x, got, ahead)
					}
				}
			}
		}
	}
}

// anyColor: most often a good one.
func (c chance) anyColor() impl.Color {
	parts := fourOf(c.color())
	if c.Intn(4) == 0 {
		parts[c.Intn(4)] = c.anyNumber(-1, 0, 255, 256)
	}
	return colorOf(parts...)
}

// changedTexture: with one thing changed.
func (c chance) changedTexture(x impl.Texture) impl.Texture {
	x.Levels = clonedBytes(x.Levels)
	level := c.Intn(len(x.Levels))
	switch c.Intn(8) {
	case 0:
		x.Wide = c.anyNumber(1, 2, 4, 8, 16)
	case 1:
		x.High = c.anyNumber(1, 2, 4, 8, 16)
	case 2:
		x.Format = c.anyNumber(1, 2, 3)
	case 3:
		x.Levels = x.Levels[:level]
	case 4:
		x.Levels = append(x.Levels, x.Levels[level])
	case 5:
		x.Levels[level] = x.Levels[level][1:]
	case 6:
		x.Levels[level] = append(x.Levels[level], 7)
	case 7:
		x.Levels[level] = nil
	}
	return x
}

func clonedBytes(rows [][]byte) [][]byte {
	var all [][]byte
	for _, row := range rows {
		all = append(all, slices.Clone(row))
	}
	return all
}

// Promise 25: numbers of any kind.
func TestPromise25AnyNumbersForColors(t *testing.T) {
	t.Parallel()
	c := newChance(301)
	good := [4]int{}
	for range 20000 {
		format := c.anyNumber(1, 2, 3)
		if heldColor(t, c.anyColor()) {
			good[0]++
		}
		if heldPack(t, format, c.anyColor()) {
			good[1]++
		}
		if heldUnpack(t, format, c.bytes(c.oneOf(bytesEach(format), bytesEach(format), c.Intn(6)))) {
			good[2]++
		}
		wide, high := c.anyNumber(1, 1, 2, 4), c.anyNumber(1, 1, 2, 4)
		colors := c.colors(max(0, min(wide, 17)) * max(0, min(high, 17)))
		if c.Intn(6) == 0 {
			colors = append(colors, c.anyColor())
		}
		if len(colors) > 0 && c.Intn(3) == 0 {
			colors[c.Intn(len(colors))] = c.anyColor()
		}
		if heldMips(t, wide, high, format, colors) {
			good[3]++
		}
	}
	for number, n := range good {
		if n < 4000 || n > 19000 {
			t.Errorf("function %d: %d of 20000 are as said", number, n)
		}
	}
}

// Promise 25: textures with one thing changed, and anything to read them by.
func TestPromise25AnyTextures(t *testing.T) {
	t.Parallel()
	c := newChance(302)
	good := [4]int{}
	for n := range 20000 {
		x := c.someTexture()
		if n%3 == 0 {
			x = c.changedTexture(x)
		}
		edge, border := c.anyNumber(1, 2, 3, 4), c.anyColor()
		level := c.anyNumber(0, c.Intn(6), c.Intn(len(x.Levels)+1), len(x.Levels)-1)
		u, v := c.anyNumber(c.somePoint(16), -100000, 100000), c.anyNumber(c.somePoint(16), c.somePoint(16), 100001)
		if heldTexture(t, x) {
			good[0]++
		}
		if heldFetch(t, x, level, c.anyNumber(0, 1, 5), c.anyNumber(0, 1, -3), edge, border) {
			good[1]++
		}
		if heldSample(t, x, level, u, v, edge, border) {
			good[2]++
		}
		if heldBetween(t, x, c.anyNumber(0, 100, 256*level, 256*level+1, 256*len(x.Levels)-256), u, v, edge, border) {
			good[3]++
		}
	}
	for number, n := range good {
		if n < 2500 || n > 16000 {
			t.Errorf("function %d: %d of 20000 are as said", number, n)
		}
	}
}

// Promise 25: nothing at all, and far too much.
func TestPromise25NoTextureAndTooMuch(t *testing.T) {
	t.Parallel()
	many := make([]byte, 1<<20)
	for _, data := range [][]byte{nil, {}, many} {
		for format := -1; format <= 5; format++ {
			if heldUnpack(t, format, data) {
				t.Errorf("%d bytes are taken by %d", len(data), format)
			}
			for _, levels := range [][][]byte{nil, {}, {data}, {data, data}, make([][]byte, 1<<16)} {
				for _, side := range []int{math.MinInt, 0, 1, 2, 16, 1 << 10, 1 << 32, math.MaxInt} {
					x := impl.Texture{Wide: side, High: side, Format: format, Levels: levels}
					a, fetched := impl.FetchColor(x, 0, 0, 0, 1, impl.Color{})
					b, sampled := impl.SampleColor(x, 0, 0, 0, 1, impl.Color{})
					c, mixed := impl.SampleBetween(x, 256*len(levels)/2, -1, -1, 1, impl.Color{})
					if impl.GoodTexture(x) || fetched || sampled || mixed || a != b || b != c || c != (impl.Color{}) {
						t.Errorf("%d levels of %d bytes are read for sides of %d", len(levels), len(data), side)
					}
				}
			}
		}
	}
	colors := make([]impl.Color, 1<<20)
	for _, l := range [][]impl.Color{nil, {}, colors} {
		for _, side := range []int{math.MinInt, -1, 0, 1, 16, 1 << 10, 1 << 32, math.MaxInt} {
			notMips(t, side, side, 1, l)
			notMips(t, side, 1, 2, l)
			notMips(t, 1, side, 3, l)
		}
	}
}

// textureFromOne: a texture whose levels lie in one piece of memory, each with the
// others and marks behind its length; and that memory, and that of the lists.
func textureFromOne(x impl.Texture) (impl.Texture, []byte, [][]byte) {
	var memory []byte
	for _, data := range x.Levels {
		memory = append(append(memory, data...), 201)
	}
	memory = append(memory, bytes.Repeat([]byte{202}, 40)...)
	var lists [][]byte
	at := 0
	for _, data := range x.Levels {
		lists = append(lists, memory[at:at+len(data)])
		at += len(data) + 1
	}
	lists = append(lists, memory, nil)
	x.Levels = lists[:len(x.Levels)]
	return x, memory, lists
}

// bytesApart: each list of an answer has its own memory, also behind its length.
func bytesApart(t *testing.T, what string, lists [][]byte) {
	t.Helper()
	for at := range lists {
		whole := lists[at][:cap(lists[at])]
		for n := range whole {
			whole[n] = byte(at)
		}
		lists[at] = append(lists[at], byte(at))
	}
	for at, l := range lists {
		if slices.ContainsFunc(l, func(n byte) bool { return n != byte(at) }) {
			t.Errorf("%s: list %d is %v, and shares its memory", what, at, l)
		}
	}
}

// Promise 25: nothing is written into a texture, and no answer hangs on what lies
// behind its lists.
func TestPromise25TexturesStayAsTheyAre(t *testing.T) {
	t.Parallel()
	c := newChance(303)
	for range 1500 {
		was := c.someTexture()
		x, memory, lists := textureFromOne(was)
		kept, keptLists := slices.Clone(memory), clonedBytes(lists)
		level, edge, border := c.Intn(len(was.Levels)), 1+c.Intn(4), c.color()
		last := 256 * (len(was.Levels) - 1)
		u, v := c.somePoint(was.Wide), c.somePoint(was.High)
		if !heldTexture(t, x) || !heldFetch(t, x, level, c.someAt(was.Wide), c.someAt(was.High), edge, border) {
			t.Errorf("%v is not taken", was)
		}
		if !heldSample(t, x, level, u, v, edge, border) || !heldBetween(t, x, c.Intn(last+1), u, v, edge, border) {
			t.Errorf("%v is not taken", was)
		}
		if !bytes.Equal(memory, kept) || !slices.EqualFunc(lists, keptLists, bytes.Equal) {
			t.Errorf("%v, or what lies behind it, is changed", was)
		}
	}
}

// Promise 25: mips are new memory, each level its own.
func TestPromise25MipsAreNewMemory(t *testing.T) {
	t.Parallel()
	c := newChance(304)
	for range 400 {
		format, wide, high := 1+c.Intn(3), c.side(), c.side()
		colors := c.colors(wide * high)
		given := behind(colors)
		first, _ := impl.WithMips(wide, high, format, given)
		second, _ := impl.WithMips(wide, high, format, given)
		want, _ := wantMips(wide, high, format, colors)
		if !sameTexture(first, want) || !sameTexture(second, want) || !unchanged(given, colors) {
			t.Errorf("WithMips(%d, %d, %d) of %v: %v, and %v", wide, high, format, colors, first, second)
		}
		bytesApart(t, "WithMips", first.Levels)
		clear(first.Levels[:cap(first.Levels)])
		clear(given[:cap(given)])
		third, _ := impl.WithMips(wide, high, format, colors)
		if !sameTexture(second, want) || !sameTexture(third, want) {
			t.Errorf("what WithMips answers is changed by another answer")
		}
	}
}

// Promise 25: packed colors are new memory, and bytes stay as they are.
func TestPromise25PackedColorsAreNewMemory(t *testing.T) {
	t.Parallel()
	c := newChance(305)
	for range 2000 {
		format, color := 1+c.Intn(3), c.color()
		first, second := impl.PackColor(format, color), impl.PackColor(format, color)
		want := wantPack(format, color)
		clear(first[:cap(first)])
		if third := impl.PackColor(format, color); !bytes.Equal(second, want) || !bytes.Equal(third, want) {
			t.Errorf("%v by %d: %v, and %v", color, format, second, third)
		}
		apartFrom(t, "UnpackColor", want, func(data []byte) []impl.Color {
			color, _ := impl.UnpackColor(format, data)
			return []impl.Color{color}
		})
		apartFrom(t, "UnpackColor", c.bytes(c.Intn(7)), func(data []byte) []impl.Color {
			color, _ := impl.UnpackColor(format, data)
			return []impl.Color{color}
		})
	}
}

// Promise 25: answers hang on what is given alone, whatever was asked between.
func TestPromise25TexturesAgain(t *testing.T) {
	t.Parallel()
	c := newChance(306)
	for range 500 {
		x := c.someTexture()
		level, edge, border := c.Intn(len(x.Levels)), 1+c.Intn(4), c.color()
		lod := c.Intn(256*len(x.Levels) - 255)
		u, v := c.somePoint(x.Wide), c.somePoint(x.High)
		fetched, _ := impl.FetchColor(x, level, u, v, edge, border)
		sampled, _ := impl.SampleColor(x, level, u, v, edge, border)
		mixed, _ := impl.SampleBetween(x, lod, u, v, edge, border)
		for range 3 {
			heldBetween(t, c.someTexture(), c.Intn(300), c.somePoint(4), c.somePoint(4), 1+c.Intn(4), c.color())
			heldMips(t, 2, 2, 1+c.Intn(3), c.colors(4))
			heldTexture(t, impl.Texture{})
			again := x
			again.Levels = clonedBytes(x.Levels)
			a, _ := impl.FetchColor(again, level, u, v, edge, border)
			b, _ := impl.SampleColor(again, level, u, v, edge, border)
			m, _ := impl.SampleBetween(again, lod, u, v, edge, border)
			if a != fetched || b != sampled || m != mixed {
				t.Errorf("%v is read otherwise again", x)
			}
		}
	}
}
