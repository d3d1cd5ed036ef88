package tests

import (
	"bytes"
	"math"
	"slices"
	"testing"

	"loop.example/g00053/impl"
)

// The edges that chapter 16 names, with what is answered written out.

// levelsOf: the bytes of levels, with `|` between each two of them.
func levelsOf(text string) [][]byte {
	var levels [][]byte
	for _, numbers := range setsOf(text) {
		var data []byte
		for _, n := range numbers {
			data = append(data, byte(n))
		}
		levels = append(levels, data)
	}
	return levels
}

func textureWith(wide, high, format int, levels string) impl.Texture {
	return impl.Texture{Wide: wide, High: high, Format: format, Levels: levelsOf(levels)}
}

// greyOf: a color as FmtGrey unpacks it.
func greyOf(n int) impl.Color { return colorOf(n, n, n, 255) }

// greysOf: colors whose parts but R are left out by FmtGrey.
func greysOf(text string) []impl.Color {
	var l []impl.Color
	for _, n := range numbersOf(text) {
		l = append(l, colorOf(n, 255-n, 77, 3))
	}
	return l
}

// Colors that are not good: each part by itself, close to the ends and far off.
func wrongColors() []impl.Color {
	var l []impl.Color
	for at := range 4 {
		for _, wrong := range slices.Concat(farInts, []int{-255, 256, 257, 511, 1000}) {
			parts := []int{1, 2, 3, 4}
			parts[at] = wrong
			l = append(l, colorOf(parts...))
		}
	}
	return l
}

// Numbers of formats and of edges that are none.
var noFormats = slices.Concat(farInts, []int{0, 4, 5, 255, 256, 257})
var noEdges = slices.Concat(farInts, []int{0, 5, 6, 255, 256, 257})

func TestConstantsOfTextures(t *testing.T) {
	t.Parallel()
	got := []int{impl.MaxSide, impl.FmtGrey, impl.FmtFull, impl.FmtShort, impl.EdgeClamp, impl.EdgeRepeat, impl.EdgeMirror, impl.EdgeBorder}
	if !slices.Equal(got, []int{16, 1, 2, 3, 1, 2, 3, 4}) {
		t.Errorf("constants %v", got)
	}
}

func TestGoodColors(t *testing.T) {
	t.Parallel()
	for at := range 4 {
		for _, part := range []int{-2, -1, 0, 1, 254, 255, 256, 257} {
			for _, others := range []int{0, 9, 255} {
				parts := []int{others, others, others, others}
				parts[at] = part
				if got := impl.GoodColor(colorOf(parts...)); got != (part >= 0 && part <= 255) {
					t.Errorf("GoodColor(%v) = %v", parts, got)
				}
			}
		}
	}
	for _, wrong := range wrongColors() {
		if impl.GoodColor(wrong) {
			t.Errorf("%v is good", wrong)
		}
	}
	if !impl.GoodColor(impl.Color{}) {
		t.Error("the zero color is not good")
	}
}

// packs: what a color becomes, and what comes back of it.
func packs(t *testing.T, format int, c impl.Color, data string, back impl.Color) {
	t.Helper()
	want := levelsOf(data)[0]
	if got := impl.PackColor(format, c); !bytes.Equal(got, want) {
		t.Errorf("PackColor(%d, %v) = %v, want %v", format, c, got, want)
	}
	if got, ok := impl.UnpackColor(format, want); got != back || !ok {
		t.Errorf("UnpackColor(%d, %v) = %v, %v, want %v", format, want, got, ok, back)
	}
}

func TestPackedColors(t *testing.T) {
	t.Parallel()
	packs(t, 1, colorOf(0, 1, 2, 3), "0", greyOf(0))
	packs(t, 1, colorOf(255, 0, 0, 0), "255", greyOf(255))
	packs(t, 1, colorOf(7, 255, 255, 255), "7", greyOf(7))
	packs(t, 2, colorOf(0, 1, 2, 3), "0 1 2 3", colorOf(0, 1, 2, 3))
	packs(t, 2, colorOf(255, 254, 0, 255), "255 254 0 255", colorOf(255, 254, 0, 255))
	packs(t, 2, impl.Color{}, "0 0 0 0", impl.Color{})
	packs(t, 3, impl.Color{}, "0 0", colorOf(0, 0, 0, 255))
	packs(t, 3, colorOf(255, 255, 255, 9), "255 255", colorOf(255, 255, 255, 255))
	// the lower byte is the first one
	packs(t, 3, colorOf(255, 0, 0, 9), "0 248", colorOf(255, 0, 0, 255))
	packs(t, 3, colorOf(0, 255, 0, 0), "224 7", colorOf(0, 255, 0, 255))
	packs(t, 3, colorOf(0, 0, 255, 255), "31 0", colorOf(0, 0, 255, 255))
	packs(t, 3, colorOf(128, 128, 128, 128), "16 132", colorOf(132, 130, 132, 255))
	packs(t, 3, colorOf(127, 127, 127, 0), "239 123", colorOf(123, 125, 123, 255))
	packs(t, 3, colorOf(8, 4, 16, 0), "34 8", colorOf(8, 4, 16, 255))
	// the nearest one, below and above
	packs(t, 3, colorOf(4, 2, 4, 0), "0 0", colorOf(0, 0, 0, 255))
	packs(t, 3, colorOf(5, 3, 5, 0), "33 8", colorOf(8, 4, 8, 255))
	packs(t, 3, colorOf(250, 252, 250, 0), "222 247", colorOf(247, 251, 247, 255))
	packs(t, 3, colorOf(251, 253, 251, 0), "255 255", colorOf(255, 255, 255, 255))
}

// Each part from 0 to 255, packed, unpacked, and packed again.
func TestPackedAgain(t *testing.T) {
	t.Parallel()
	for at := range 4 {
		for part := range 256 {
			for _, others := range []int{0, 100, 255} {
				parts := []int{others, others, others, others}
				parts[at] = part
				for format := 1; format <= 3; format++ {
					color := colorOf(parts...)
					data := impl.PackColor(format, color)
					back, ok := impl.UnpackColor(format, data)
					if again := impl.PackColor(format, back); !ok || !impl.GoodColor(back) || !bytes.Equal(again, data) {
						t.Errorf("%v by %d is %v, comes back as %v, and is %v then", color, format, data, back, again)
					}
					if format == impl.FmtFull && back != color {
						t.Errorf("%v comes back as %v", color, back)
					}
					heldPack(t, format, color)
				}
			}
		}
	}
}

// Short colors come back as near as their bits let them: a step of 5 bits is 8 and a
// bit, one of 6 bits 4 and a bit, and none is off by more than half of it.
func TestShortColorsAreNear(t *testing.T) {
	t.Parallel()
	for part := range 256 {
		back, _ := impl.UnpackColor(3, impl.PackColor(3, colorOf(part, part, part, 0)))
		if max(back.R-part, part-back.R) > 4 || max(back.G-part, part-back.G) > 2 || back.B != back.R || back.A != 255 {
			t.Errorf("%d comes back as %v", part, back)
		}
	}
}

func TestNothingIsPacked(t *testing.T) {
	t.Parallel()
	for _, wrong := range wrongColors() {
		for format := range 5 {
			if got := impl.PackColor(format, wrong); len(got) > 0 {
				t.Errorf("PackColor(%d, %v) = %v", format, wrong, got)
			}
		}
	}
	for _, format := range noFormats {
		if got := impl.PackColor(format, colorOf(1, 2, 3, 4)); len(got) > 0 {
			t.Errorf("by %d: %v", format, got)
		}
		for count := range 9 {
			if got, ok := impl.UnpackColor(format, make([]byte, count)); ok || got != (impl.Color{}) {
				t.Errorf("%d bytes by %d: %v, %v", count, format, got, ok)
			}
		}
	}
}

func TestBytesOfColors(t *testing.T) {
	t.Parallel()
	for format, count := range []int{1: 1, 2: 4, 3: 2} {
		for given := range 12 {
			got, ok := impl.UnpackColor(format, bytes.Repeat([]byte{200}, given))
			if good := format > 0 && given == count; ok != good || !good && got != (impl.Color{}) {
				t.Errorf("%d bytes by %d: %v, %v", given, format, got, ok)
			}
		}
		for _, none := range [][]byte{nil, {}} {
			if got, ok := impl.UnpackColor(format, none); ok || got != (impl.Color{}) {
				t.Errorf("no bytes by %d: %v, %v", format, got, ok)
			}
		}
	}
}

// sized: a texture with levels of so many bytes.
func sized(wide, high, format int, counts ...int) impl.Texture {
	t := impl.Texture{Wide: wide, High: high, Format: format}
	for _, count := range counts {
		t.Levels = append(t.Levels, make([]byte, count))
	}
	return t
}

func TestGoodTextures(t *testing.T) {
	t.Parallel()
	for _, good := range []impl.Texture{
		sized(1, 1, 1, 1), sized(1, 1, 2, 4), sized(1, 1, 3, 2),
		sized(2, 2, 1, 4, 1), sized(2, 2, 2, 16, 4), sized(2, 2, 3, 8, 2),
		sized(4, 4, 1, 16, 4, 1), sized(8, 8, 1, 64, 16, 4, 1), sized(8, 8, 3, 128, 32, 8, 2),
		sized(16, 16, 1, 256, 64, 16, 4, 1), sized(16, 16, 2, 1024, 256, 64, 16, 4), sized(16, 16, 3, 512, 128, 32, 8, 2),
		sized(16, 1, 1, 16, 8, 4, 2, 1), sized(1, 16, 1, 16, 8, 4, 2, 1), sized(16, 1, 2, 64, 32, 16, 8, 4), sized(1, 16, 3, 32, 16, 8, 4, 2),
		sized(2, 1, 1, 2, 1), sized(1, 2, 1, 2, 1), sized(8, 2, 1, 16, 4, 2, 1), sized(2, 8, 3, 32, 8, 4, 2), sized(16, 4, 1, 64, 16, 4, 2, 1),
	} {
		if !impl.GoodTexture(good) || !wantTexture(good) {
			t.Errorf("%v is not good", good)
		}
	}
}

// Every two sides, and each number of levels.
func TestSidesOfTextures(t *testing.T) {
	t.Parallel()
	sides := slices.Concat(farInts, upTo(35), []int{48, 64, 128, 256})
	for _, wide := range sides {
		for _, high := range sides {
			x := impl.Texture{Wide: wide, High: high, Format: 1}
			shapes := shapesOf(wide, high)
			for _, shape := range shapes {
				x.Levels = append(x.Levels, make([]byte, shape[0]*shape[1]))
			}
			if got := impl.GoodTexture(x); got != (len(shapes) > 0) {
				t.Errorf("%d by %d, with %d levels: %v", wide, high, len(shapes), got)
			}
			if len(shapes) == 0 {
				x.Levels = [][]byte{make([]byte, max(0, min(wide, 256))*max(0, min(high, 256)))}
				if impl.GoodTexture(x) {
					t.Errorf("%d by %d is good", wide, high)
				}
			}
		}
	}
}

// badTextures: each with one thing wrong.
func badTextures() []impl.Texture {
	bad := []impl.Texture{{}, {Format: 1}, {Wide: 1, High: 1, Format: 1}, {Wide: 1, High: 1, Format: 1, Levels: [][]byte{}}}
	bad = append(bad, sized(1, 1, 1, 1, 1), sized(1, 1, 1, 1, 0), sized(1, 1, 1, 0), sized(0, 0, 1, 0), sized(0, 0, 1), sized(0, 1, 1, 0), sized(0, 2, 1, 0, 1))
	bad = append(bad, sized(3, 3, 1, 9, 1), sized(3, 1, 1, 3, 1), sized(32, 32, 1, 1024, 256, 64, 16, 4, 1), sized(32, 1, 1, 32, 16, 8, 4, 2, 1), sized(1, 32, 1, 32, 16, 8, 4, 2, 1), sized(12, 12, 1, 144, 36, 9, 1), sized(-2, -2, 1, 4, 1))
	for format := 1; format <= 3; format++ {
		for _, sides := range [][2]int{{1, 1}, {2, 2}, {4, 2}, {16, 1}, {1, 16}, {16, 16}} {
			shapes := shapesOf(sides[0], sides[1])
			counts := make([]int, len(shapes))
			for at, shape := range shapes {
				counts[at] = bytesEach(format) * shape[0] * shape[1]
			}
			bad = append(bad, sized(sides[0], sides[1], format, counts[1:]...), sized(sides[0], sides[1], format, counts[:len(counts)-1]...))
			bad = append(bad, sized(sides[0], sides[1], format, append(slices.Clone(counts), bytesEach(format))...), sized(sides[0], sides[1], format, append(slices.Clone(counts), 0)...))
			for at := range counts {
				for _, off := range []int{-1, 1, -bytesEach(format), bytesEach(format)} {
					changed := slices.Clone(counts)
					changed[at] += off
					bad = append(bad, sized(sides[0], sides[1], format, changed...))
				}
			}
			for _, other := range []int{0, 4, 1 + format%3, math.MinInt, math.MaxInt} {
				bad = append(bad, sized(sides[0], sides[1], other, counts...))
			}
			if sides[0] != sides[1] {
				bad = append(bad, sized(sides[1]*sides[0], 1, format, counts[:1]...), sized(sides[0], sides[0], format, counts...))
			}
		}
	}
	return bad
}

// No color is read from a texture that is not good, wherever.
func TestTexturesThatAreNotGood(t *testing.T) {
	t.Parallel()
	for _, bad := range badTextures() {
		if impl.GoodTexture(bad) || wantTexture(bad) {
			t.Errorf("%v is good", bad)
		}
		for edge := range 6 {
			for level := -1; level <= len(bad.Levels); level++ {
				a, fetched := impl.FetchColor(bad, level, 0, 0, edge, impl.Color{})
				b, sampled := impl.SampleColor(bad, level, 128, 128, edge, impl.Color{})
				c, mixed := impl.SampleBetween(bad, 256*level, 128, 128, edge, impl.Color{})
				if fetched || sampled || mixed || a != (impl.Color{}) || b != (impl.Color{}) || c != (impl.Color{}) {
					t.Errorf("%v is read as %v, %v, %v", bad, a, b, c)
				}
			}
		}
	}
}

func TestFormatsOfTextures(t *testing.T) {
	t.Parallel()
	for _, format := range append(slices.Clone(noFormats), 1, 2, 3) {
		for _, count := range []int{0, 1, 2, 3, 4, 8} {
			got := impl.GoodTexture(sized(1, 1, format, count))
			if want := format == 1 && count == 1 || format == 2 && count == 4 || format == 3 && count == 2; got != want {
				t.Errorf("format %d with %d bytes: %v", format, count, got)
			}
		}
	}
}

// mips: the levels of some colors.
func mips(t *testing.T, wide, high, format int, colors []impl.Color, levels string) {
	t.Helper()
	want := textureWith(wide, high, format, levels)
	if got, ok := impl.WithMips(wide, high, format, colors); !ok || !sameTexture(got, want) {
		t.Errorf("WithMips(%d, %d, %d, %v) = %v, %v, want %v", wide, high, format, colors, got, ok, want)
	}
	heldMips(t, wide, high, format, colors)
}

func TestLevelsOfFour(t *testing.T) {
	t.Parallel()
	mips(t, 1, 1, 1, greysOf("9"), "9")
	mips(t, 2, 2, 1, greysOf("0 100 200 100"), "0 100 200 100|100")
	mips(t, 4, 2, 1, greysOf("0 1 10 11 2 3 12 13"), "0 1 10 11 2 3 12 13|2 12|7")
	mips(t, 2, 4, 1, greysOf("0 1 2 3 10 11 12 13"), "0 1 2 3 10 11 12 13|2 12|7")
	mips(t, 4, 4, 1, greysOf("0 0 4 4 0 0 4 4 8 8 16 16 8 8 16 16"), "0 0 4 4 0 0 4 4 8 8 16 16 8 8 16 16|0 4 8 16|7")
	// places are row by row: next to it means to the right and below
	mips(t, 4, 2, 1, greysOf("100 0 0 0 0 0 0 0"), "100 0 0 0 0 0 0 0|25 0|13")
	mips(t, 4, 2, 1, greysOf("0 0 0 0 0 0 0 100"), "0 0 0 0 0 0 0 100|0 25|13")
	mips(t, 4, 2, 1, greysOf("0 0 0 0 100 0 0 0"), "0 0 0 0 100 0 0 0|25 0|13")
	mips(t, 4, 2, 1, greysOf("0 0 100 0 0 0 0 0"), "0 0 100 0 0 0 0 0|0 25|13")
}

func TestLevelsOfTwo(t *testing.T) {
	t.Parallel()
	for _, turned := range []bool{false, true} {
		line := func(long int, colors, levels string) {
			t.Helper()
			if turned {
				mips(t, 1, long, 1, greysOf(colors), levels)
			} else {
				mips(t, long, 1, 1, greysOf(colors), levels)
			}
		}
		line(2, "10 30", "10 30|20")
		line(4, "0 1 2 4", "0 1 2 4|1 3|2")
		line(8, "0 8 16 24 32 40 48 56", "0 8 16 24 32 40 48 56|4 20 36 52|12 44|28")
		line(16, "1 1 1 1 1 1 1 1 1 1 1 1 1 1 1 2", "1 1 1 1 1 1 1 1 1 1 1 1 1 1 1 2|1 1 1 1 1 1 1 2|1 1 1 2|1 2|2")
		line(16, "2 1 1 1 1 1 1 1 1 1 1 1 1 1 1 1", "2 1 1 1 1 1 1 1 1 1 1 1 1 1 1 1|2 1 1 1 1 1 1 1|2 1 1 1|2 1|2")
	}
	// four as long as both sides are there, two from then on
	mips(t, 8, 2, 1, greysOf("0 0 0 0 0 0 0 0 0 4 0 8 0 12 0 16"), "0 0 0 0 0 0 0 0 0 4 0 8 0 12 0 16|1 2 3 4|2 4|3")
	mips(t, 2, 8, 1, greysOf("0 0 0 4 0 0 0 8 0 0 0 12 0 0 0 16"), "0 0 0 4 0 0 0 8 0 0 0 12 0 0 0 16|1 2 3 4|2 4|3")
}

// Half up of four and of two.
func TestHalfUp(t *testing.T) {
	t.Parallel()
	mips(t, 2, 2, 1, greysOf("0 0 0 0"), "0 0 0 0|0")
	mips(t, 2, 2, 1, greysOf("0 0 0 1"), "0 0 0 1|0")
	mips(t, 2, 2, 1, greysOf("0 0 1 1"), "0 0 1 1|1")
	mips(t, 2, 2, 1, greysOf("0 1 1 1"), "0 1 1 1|1")
	mips(t, 2, 2, 1, greysOf("1 1 1 2"), "1 1 1 2|1")
	mips(t, 2, 2, 1, greysOf("254 254 254 255"), "254 254 254 255|254")
	mips(t, 2, 2, 1, greysOf("254 254 255 255"), "254 254 255 255|255")
	mips(t, 2, 2, 1, greysOf("255 255 255 255"), "255 255 255 255|255")
	for _, sides := range [][2]int{{2, 1}, {1, 2}} {
		mips(t, sides[0], sides[1], 1, greysOf("0 0"), "0 0|0")
		mips(t, sides[0], sides[1], 1, greysOf("0 1"), "0 1|1")
		mips(t, sides[0], sides[1], 1, greysOf("1 2"), "1 2|2")
		mips(t, sides[0], sides[1], 1, greysOf("1 3"), "1 3|2")
		mips(t, sides[0], sides[1], 1, greysOf("255 254"), "255 254|255")
		mips(t, sides[0], sides[1], 1, greysOf("0 255"), "0 255|128")
		mips(t, sides[0], sides[1], 2, []impl.Color{colorOf(1, 2, 3, 4), colorOf(2, 4, 6, 8)}, "1 2 3 4 2 4 6 8|2 3 5 6")
	}
	mips(t, 2, 2, 2, []impl.Color{colorOf(0, 0, 0, 0), colorOf(0, 1, 0, 255), colorOf(0, 0, 1, 255), colorOf(1, 1, 1, 255)}, "0 0 0 0 0 1 0 255 0 0 1 255 1 1 1 255|0 1 1 191")
}

// A level is made of the one ahead of it, as that one is unpacked.
func TestLevelsAreMadeOfUnpackedColors(t *testing.T) {
	t.Parallel()
	// by all four at once it would be 0
	mips(t, 4, 1, 1, greysOf("0 1 0 0"), "0 1 0 0|1 0|1")
	mips(t, 4, 1, 2, []impl.Color{{}, colorOf(1, 0, 0, 1), {}, {}}, "0 0 0 0 1 0 0 1 0 0 0 0 0 0 0 0|1 0 0 1 0 0 0 0|1 0 0 1")
	// 4 and 5 are 0 and 8 then, which makes 4, and 0 again; 4 and 5 as they were would make 5, and 8
	mips(t, 2, 1, 3, []impl.Color{colorOf(4, 0, 0, 0), colorOf(5, 0, 0, 0)}, "0 0 0 8|0 0")
	mips(t, 2, 1, 3, []impl.Color{colorOf(0, 0, 4, 0), colorOf(0, 0, 5, 0)}, "0 0 1 0|0 0")
	// 2 and 3 are 0 and 4, which makes 2, and 0 again; 2 and 3 as they were would make 3, and 4
	mips(t, 1, 2, 3, []impl.Color{colorOf(0, 2, 0, 0), colorOf(0, 3, 0, 0)}, "0 0 32 0|0 0")
	mips(t, 2, 2, 3, []impl.Color{colorOf(255, 255, 255, 0), {}, {}, colorOf(255, 255, 255, 0)}, "255 255 0 0 0 0 255 255|16 132")
	// what FmtGrey leaves out comes back as R, and stays left out
	mips(t, 2, 1, 1, []impl.Color{colorOf(10, 200, 30, 0), colorOf(20, 0, 255, 9)}, "10 20|15")
	x, _ := impl.WithMips(2, 1, 1, []impl.Color{colorOf(10, 200, 30, 0), colorOf(20, 0, 255, 9)})
	for level, want := range []int{10, 15} {
		if got, ok := impl.FetchColor(x, level, 0, 0, 1, impl.Color{}); got != greyOf(want) || !ok {
			t.Errorf("level %d: %v, %v", level, got, ok)
		}
	}
}

func TestHowManyColors(t *testing.T) {
	t.Parallel()
	for _, sides := range [][2]int{{1, 1}, {2, 1}, {1, 2}, {2, 2}, {4, 2}, {16, 1}, {1, 16}, {8, 8}, {16, 16}} {
		all := sides[0] * sides[1]
		for format := range 5 {
			for count := range all + 18 {
				got, ok := impl.WithMips(sides[0], sides[1], format, make([]impl.Color, count))
				good := count == all && format >= 1 && format <= 3
				if ok != good || good != impl.GoodTexture(got) || !good && !sameTexture(got, impl.Texture{}) {
					t.Errorf("%d colors for %v by %d: %v, %v", count, sides, format, got, ok)
				}
			}
		}
	}
}

// notMips: nothing comes of these.
func notMips(t *testing.T, wide, high, format int, colors []impl.Color) {
	t.Helper()
	if got, ok := impl.WithMips(wide, high, format, colors); ok || !sameTexture(got, impl.Texture{}) {
		t.Errorf("WithMips(%d, %d, %d, %d colors) = %v, %v", wide, high, format, len(colors), got, ok)
	}
}

func TestNoMips(t *testing.T) {
	t.Parallel()
	for _, wrong := range wrongColors() {
		notMips(t, 1, 1, 1, []impl.Color{wrong})
		for at := range 4 {
			colors := make([]impl.Color, 4)
			colors[at] = wrong
			for format := 1; format <= 3; format++ {
				notMips(t, 2, 2, format, colors)
				notMips(t, 4, 1, format, colors)
			}
		}
	}
	for _, format := range noFormats {
		notMips(t, 1, 1, format, make([]impl.Color, 1))
		notMips(t, 2, 2, format, make([]impl.Color, 4))
	}
	for _, side := range slices.Concat(farInts, []int{0, 3, 5, 6, 7, 9, 12, 15, 17, 24, 31, 32, 64, 256}) {
		for count := range 70 {
			notMips(t, side, 1, 1, make([]impl.Color, count))
			notMips(t, 1, side, 2, make([]impl.Color, count))
			notMips(t, 2, side, 3, make([]impl.Color, count))
			notMips(t, side, 4, 1, make([]impl.Color, count))
			notMips(t, side, side, 1, make([]impl.Color, count))
		}
		notMips(t, side, 16, 1, make([]impl.Color, 16*max(0, min(side, 256))))
		notMips(t, side, side, 1, make([]impl.Color, max(0, min(side, 256))*max(0, min(side, 256))))
	}
	// products that wrap round to 0, or to what is given
	notMips(t, 1<<32, 1<<32, 1, nil)
	notMips(t, 1<<62, 4, 1, []impl.Color{})
	notMips(t, -1, -1, 1, make([]impl.Color, 1))
	notMips(t, -2, -2, 1, make([]impl.Color, 4))
	notMips(t, 1, 1, 1, nil)
	notMips(t, 0, 0, 1, nil)
}
