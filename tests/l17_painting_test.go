package tests

import (
	"math"
	"slices"
	"testing"

	"loop.example/g00053/impl"
)

// The edges that chapter 17 names of colors upon colors, of screens and of what is
// painted, with what is answered written out.

// blends: what a color makes upon another one.
func blends(t *testing.T, from, to, want impl.Color) {
	t.Helper()
	if got, ok := impl.BlendColor(from, to); got != want || !ok {
		t.Errorf("BlendColor(%v, %v) = %v, %v, want %v", from, to, got, ok, want)
	}
	heldBlend(t, from, to)
}

func TestBlendedColors(t *testing.T) {
	t.Parallel()
	for _, a := range []int{0, 1, 127, 128, 254, 255} {
		// by all the color, by nothing what was there
		blends(t, colorOf(10, 20, 30, 255), colorOf(200, 100, 0, a), colorOf(10, 20, 30, 255))
		blends(t, colorOf(10, 20, 30, 0), colorOf(200, 100, 0, a), colorOf(200, 100, 0, a))
		// alike parts stay
		blends(t, colorOf(0, 77, 255, a), colorOf(0, 77, 255, 255), colorOf(0, 77, 255, 255))
	}
	blends(t, colorOf(255, 0, 0, 128), colorOf(0, 0, 255, 255), colorOf(128, 0, 127, 255))
	blends(t, colorOf(255, 0, 128, 1), colorOf(0, 255, 128, 0), colorOf(1, 254, 128, 1))
	blends(t, colorOf(255, 0, 128, 254), colorOf(0, 255, 128, 0), colorOf(254, 1, 128, 254))
	blends(t, colorOf(200, 100, 0, 127), colorOf(100, 200, 255, 64), colorOf(150, 150, 128, 159))
	blends(t, colorOf(200, 100, 0, 128), colorOf(100, 200, 255, 64), colorOf(150, 150, 127, 160))
	blends(t, colorOf(90, 0, 255, 64), colorOf(10, 255, 0, 128), colorOf(30, 191, 64, 160))
	blends(t, impl.Color{}, impl.Color{}, impl.Color{})
}

// Just below a half goes down, just above it up; there is nothing between.
func TestBlendedHalves(t *testing.T) {
	t.Parallel()
	blends(t, colorOf(1, 0, 255, 127), colorOf(0, 1, 254, 0), colorOf(0, 1, 254, 127))
	blends(t, colorOf(1, 0, 255, 128), colorOf(0, 1, 254, 0), colorOf(1, 0, 255, 128))
	blends(t, colorOf(3, 0, 0, 42), colorOf(0, 3, 0, 0), colorOf(0, 3, 0, 42))
	blends(t, colorOf(3, 0, 0, 43), colorOf(0, 3, 0, 0), colorOf(1, 2, 0, 43))
	blends(t, colorOf(3, 0, 0, 127), colorOf(0, 3, 0, 0), colorOf(1, 2, 0, 127))
	blends(t, colorOf(3, 0, 0, 128), colorOf(0, 3, 0, 0), colorOf(2, 1, 0, 128))
	// of A likewise
	blends(t, colorOf(0, 0, 0, 127), colorOf(0, 0, 0, 1), colorOf(0, 0, 0, 128))
	blends(t, colorOf(0, 0, 0, 128), colorOf(0, 0, 0, 1), colorOf(0, 0, 0, 128))
	blends(t, colorOf(0, 0, 0, 128), colorOf(0, 0, 0, 2), colorOf(0, 0, 0, 129))
}

// The new A by both.
func TestBlendedAs(t *testing.T) {
	t.Parallel()
	as := []int{0, 1, 127, 128, 254, 255}
	for at, row := range [][]int{
		{0, 1, 127, 128, 254, 255},
		{1, 2, 128, 128, 254, 255},
		{127, 128, 191, 191, 254, 255},
		{128, 128, 191, 192, 255, 255},
		{254, 254, 254, 255, 255, 255},
		{255, 255, 255, 255, 255, 255},
	} {
		for number, want := range row {
			blends(t, colorOf(9, 9, 9, as[at]), colorOf(9, 9, 9, as[number]), colorOf(9, 9, 9, want))
		}
	}
}

func TestColorsThatAreNotBlended(t *testing.T) {
	t.Parallel()
	for _, wrong := range wrongColors() {
		for _, pair := range [][2]impl.Color{{wrong, {}}, {{}, wrong}, {wrong, wrong}, {wrong, colorOf(255, 255, 255, 255)}, {colorOf(0, 0, 0, 255), wrong}} {
			if got, ok := impl.BlendColor(pair[0], pair[1]); ok || got != (impl.Color{}) {
				t.Errorf("BlendColor(%v, %v) = %v, %v", pair[0], pair[1], got, ok)
			}
		}
	}
}

func TestNewScreens(t *testing.T) {
	t.Parallel()
	for _, wide := range upTo(27) {
		for _, high := range upTo(27) {
			color := colorOf(wide, high, 255, wide+high)
			s, ok := impl.NewScreen(wide, high, color)
			if !heldNewScreen(t, wide, high, color) {
				if ok || !sameScreen(s, impl.Screen{}) {
					t.Errorf("NewScreen(%d, %d) = %v, %v", wide, high, s, ok)
				}
				continue
			}
			if s.Wide != wide || s.High != high || len(s.Colors) != wide*high || s.Colors[wide*high-1] != color || s.Depths[wide*high-1] != 65536 {
				t.Errorf("NewScreen(%d, %d) = %v, %v", wide, high, s, ok)
			}
		}
	}
	for _, sides := range [][2]int{{1, 1}, {1, 24}, {24, 1}, {24, 24}} {
		for _, color := range []impl.Color{{}, colorOf(255, 255, 255, 255), colorOf(0, 255, 0, 255)} {
			if !heldNewScreen(t, sides[0], sides[1], color) {
				t.Errorf("%v of %v is none", sides, color)
			}
		}
	}
}

func TestNoNewScreens(t *testing.T) {
	t.Parallel()
	for _, wrong := range wrongColors() {
		if s, ok := impl.NewScreen(2, 2, wrong); ok || !sameScreen(s, impl.Screen{}) {
			t.Errorf("NewScreen of %v = %v, %v", wrong, s, ok)
		}
	}
	for _, side := range slices.Concat(farInts, noCoordinates, []int{0, 25, 26, 48, 64, 576, 577}) {
		for _, sides := range [][2]int{{side, 1}, {1, side}, {side, side}, {24, side}, {side, 24}, {side, 0}, {25, side}} {
			if s, ok := impl.NewScreen(sides[0], sides[1], impl.Color{}); ok || !sameScreen(s, impl.Screen{}) {
				t.Errorf("NewScreen of %v: %d by %d, %v", sides, s.Wide, s.High, ok)
			}
		}
	}
}

// screenOf: a screen of noughts with so many colors and depths.
func screenOf(wide, high, colors, depths int) impl.Screen {
	return impl.Screen{Wide: wide, High: high, Colors: make([]impl.Color, colors), Depths: make([]int, depths)}
}

// refusedScreen: it is not good, and nothing is painted upon it.
func refusedScreen(t *testing.T, s impl.Screen) {
	t.Helper()
	if heldScreen(t, s) || impl.GoodScreen(s) {
		t.Errorf("%d by %d with %d colors and %d depths is good", s.Wide, s.High, len(s.Colors), len(s.Depths))
	}
	for _, l := range [][]impl.Tri{nil, {}, {triOf("0 0|64 0|0 64")}} {
		if got, ok := impl.PaintTris(s, l); ok || !sameScreen(got, impl.Screen{}) {
			t.Errorf("%d by %d with %d colors and %d depths is painted", s.Wide, s.High, len(s.Colors), len(s.Depths))
		}
	}
}

func TestGoodScreens(t *testing.T) {
	t.Parallel()
	for _, wide := range []int{1, 2, 3, 23, 24} {
		for _, high := range []int{1, 2, 3, 23, 24} {
			all := wide * high
			if !heldScreen(t, screenOf(wide, high, all, all)) {
				t.Errorf("%d by %d is not good", wide, high)
			}
			for _, off := range []int{-all, -1, 1, 24} {
				refusedScreen(t, screenOf(wide, high, all+off, all))
				refusedScreen(t, screenOf(wide, high, all, all+off))
				refusedScreen(t, screenOf(wide, high, all+off, all+off))
			}
		}
	}
	for _, at := range []int{0, 3, 5} {
		for _, depth := range []int{0, 1, 65534, 65535, 65536} {
			s := screenOf(3, 2, 6, 6)
			s.Depths[at] = depth
			if !heldScreen(t, s) {
				t.Errorf("depth %d at %d is not good", depth, at)
			}
		}
		for _, depth := range noDepths {
			s := screenOf(3, 2, 6, 6)
			if s.Depths[at] = depth; depth != 65536 {
				refusedScreen(t, s)
			}
		}
		for _, wrong := range wrongColors() {
			s := screenOf(3, 2, 6, 6)
			s.Colors[at] = wrong
			refusedScreen(t, s)
		}
	}
}

func TestSidesThatAreNotGood(t *testing.T) {
	t.Parallel()
	refusedScreen(t, impl.Screen{})
	for _, side := range slices.Concat(farInts, noCoordinates, []int{0, 25, 26, 48}) {
		for _, sides := range [][2]int{{side, 1}, {1, side}, {side, side}, {24, side}, {side, 24}} {
			all := max(0, min(sides[0], 50)) * max(0, min(sides[1], 50))
			refusedScreen(t, screenOf(sides[0], sides[1], all, all))
			refusedScreen(t, screenOf(sides[0], sides[1], 0, 0))
			refusedScreen(t, screenOf(sides[0], sides[1], 1, 1))
			refusedScreen(t, screenOf(sides[0], sides[1], 24, 24))
		}
	}
	// products that are, or wrap round to, as many as there are
	refusedScreen(t, screenOf(-2, -2, 4, 4))
	refusedScreen(t, screenOf(-24, -24, 576, 576))
	refusedScreen(t, screenOf(48, 12, 576, 576))
	refusedScreen(t, screenOf(25, 1, 25, 25))
	refusedScreen(t, screenOf(1, 25, 25, 25))
	refusedScreen(t, screenOf(1<<32, 1<<32, 0, 0))
	refusedScreen(t, screenOf(1<<62, 4, 0, 0))
	refusedScreen(t, screenOf(math.MinInt, 2, 0, 0))
}

// sheet: a tri that covers every screen at one depth.
func sheet(depth int, color impl.Color) impl.Tri {
	x := triOf("-4096 -4096|4096 -4096|0 4096")
	x.A.Z, x.B.Z, x.C.Z, x.Color = depth, depth, depth, color
	return x
}

var (
	red   = colorOf(255, 0, 0, 255)
	green = colorOf(0, 255, 0, 255)
	blue  = colorOf(0, 0, 255, 255)
	faint = colorOf(255, 255, 255, 128)
	clean = colorOf(9, 9, 9, 0)
)

// paints: upon a screen of one pixel, which has a color and a depth then.
func paints(t *testing.T, depth int, l []impl.Tri, color impl.Color, want int) {
	t.Helper()
	s := impl.Screen{Wide: 1, High: 1, Colors: []impl.Color{colorOf(0, 0, 0, 255)}, Depths: []int{depth}}
	if got, ok := impl.PaintTris(s, l); !ok || !sameScreen(got, impl.Screen{Wide: 1, High: 1, Colors: []impl.Color{color}, Depths: []int{want}}) {
		t.Errorf("PaintTris at depth %d of %v = %v, %v, want %v at %d", depth, l, got, ok, color, want)
	}
	heldPaint(t, s, l)
}

func TestPaintedDepths(t *testing.T) {
	t.Parallel()
	black := colorOf(0, 0, 0, 255)
	for _, depth := range []int{0, 1, 500, 65535, 65536} {
		paints(t, depth, nil, black, depth)
		paints(t, depth, []impl.Tri{}, black, depth)
		paints(t, depth, []impl.Tri{sheet(0, red)}, red, 0)
		if depth < 65536 {
			paints(t, depth, []impl.Tri{sheet(depth, red)}, red, depth)
		}
		if depth < 65535 {
			paints(t, depth, []impl.Tri{sheet(depth+1, red)}, black, depth)
			paints(t, depth, []impl.Tri{sheet(65535, red)}, black, depth)
		}
		if depth > 0 {
			paints(t, depth, []impl.Tri{sheet(depth-1, red)}, red, depth-1)
		}
	}
	paints(t, 65536, []impl.Tri{sheet(65535, red)}, red, 65535)
	// by nothing of a color the depth counts all the same
	paints(t, 65536, []impl.Tri{sheet(7, clean)}, black, 7)
	paints(t, 65536, []impl.Tri{sheet(7, clean), sheet(8, red)}, black, 7)
}

// Tri by tri, in order: of alike depths the later one is drawn.
func TestPaintedInOrder(t *testing.T) {
	t.Parallel()
	paints(t, 65536, []impl.Tri{sheet(5, red), sheet(5, blue)}, blue, 5)
	paints(t, 65536, []impl.Tri{sheet(5, blue), sheet(5, red)}, red, 5)
	paints(t, 65536, []impl.Tri{sheet(5, red), sheet(6, blue)}, red, 5)
	paints(t, 65536, []impl.Tri{sheet(6, red), sheet(5, blue)}, blue, 5)
	paints(t, 65536, []impl.Tri{sheet(0, red), sheet(0, blue), sheet(1, green)}, blue, 0)
	paints(t, 65536, []impl.Tri{sheet(9, red), sheet(7, blue), sheet(8, green)}, blue, 7)
	paints(t, 65536, []impl.Tri{sheet(65535, red), sheet(65535, blue)}, blue, 65535)
	// each upon what is there then
	paints(t, 65536, []impl.Tri{sheet(5, red), sheet(5, faint)}, colorOf(255, 128, 128, 255), 5)
	paints(t, 65536, []impl.Tri{sheet(5, faint), sheet(5, red)}, red, 5)
	paints(t, 65536, []impl.Tri{sheet(5, faint), sheet(5, faint)}, colorOf(192, 192, 192, 255), 5)
	paints(t, 65536, []impl.Tri{sheet(5, faint), sheet(6, faint)}, colorOf(128, 128, 128, 255), 5)
	paints(t, 65536, []impl.Tri{sheet(6, faint), sheet(5, faint)}, colorOf(192, 192, 192, 255), 5)
	// the turn of a tri does not count
	turned := sheet(5, blue)
	turned.B, turned.C = turned.C, turned.B
	paints(t, 65536, []impl.Tri{sheet(5, red), turned}, blue, 5)
	paints(t, 65536, []impl.Tri{turned, sheet(5, red)}, red, 5)
}

// paintedAs: colors by letters, depths by numbers.
func paintedAs(t *testing.T, wide, high int, l []impl.Tri, letters, depths string) {
	t.Helper()
	s, _ := impl.NewScreen(wide, high, impl.Color{})
	want := impl.Screen{Wide: wide, High: high, Depths: numbersOf(depths)}
	for _, letter := range letters {
		want.Colors = append(want.Colors, map[rune]impl.Color{'.': {}, 'r': red, 'g': green, 'b': blue}[letter])
	}
	if got, ok := impl.PaintTris(s, l); !ok || !sameScreen(got, want) {
		t.Errorf("PaintTris of %v = %v, %v, want %v", l, got, ok, want)
	}
	heldPaint(t, s, l)
}

// colored: a tri of a color.
func colored(text string, color impl.Color) impl.Tri {
	t := triOf(text)
	t.Color = color
	return t
}

func TestPaintedPixels(t *testing.T) {
	t.Parallel()
	paintedAs(t, 3, 2, nil, "......", "65536 65536 65536 65536 65536 65536")
	upper, lower := colored("0 0 3|48 0 3|0 48 3", red), colored("48 48 4|0 48 4|48 0 4", green)
	paintedAs(t, 3, 3, []impl.Tri{upper}, "rr.r.....", "3 3 65536 3 65536 65536 65536 65536 65536")
	paintedAs(t, 3, 3, []impl.Tri{upper, lower}, "rrgrggggg", "3 3 4 3 4 4 4 4 4")
	paintedAs(t, 3, 3, []impl.Tri{lower, upper}, "rrgrggggg", "3 3 4 3 4 4 4 4 4")
	// planes that slant pass through each other: x and 48 - x along one row
	rising, falling := colored("0 0 0|48 0 48|0 96 0", red), colored("0 0 48|48 0 0|0 96 48", blue)
	paintedAs(t, 3, 1, []impl.Tri{rising}, "rrr", "8 24 40")
	paintedAs(t, 3, 1, []impl.Tri{falling}, "bbb", "40 24 8")
	paintedAs(t, 3, 1, []impl.Tri{rising, falling}, "rbb", "8 24 8")
	paintedAs(t, 3, 1, []impl.Tri{falling, rising}, "rrb", "8 24 8")
	// steep, from the least depth to the greatest
	steep := colored("-8 -8 0|376 -8 65535|-8 376 65535", green)
	paintedAs(t, 3, 2, []impl.Tri{steep}, "gggggg", "5461 8191 10922 8191 10922 13653")
}

// Of a tri without an area nothing is drawn, wherever it stands among others.
func TestNothingIsPainted(t *testing.T) {
	t.Parallel()
	for _, text := range []string{"8 8 0|8 8 0|8 8 0", "0 0 0|48 48 0|24 24 0", "0 8 0|48 8 0|8 8 0", "8 0 0|8 48 0|8 8 0"} {
		for _, none := range turnsOf(colored(text, blue)) {
			upper := colored("0 0 3|48 0 3|0 48 3", red)
			want := "rr.r.."
			paintedAs(t, 3, 2, []impl.Tri{none}, "......", "65536 65536 65536 65536 65536 65536")
			for _, l := range [][]impl.Tri{{none, upper}, {upper, none}, {none, upper, none}} {
				paintedAs(t, 3, 2, l, want, "3 3 65536 3 65536 65536")
			}
		}
	}
}

func TestHowManyTris(t *testing.T) {
	t.Parallel()
	var l []impl.Tri
	s, _ := impl.NewScreen(2, 1, impl.Color{})
	for count := range 30 {
		got, ok := impl.PaintTris(s, l)
		if count > 12 {
			if ok || !sameScreen(got, impl.Screen{}) {
				t.Errorf("%d tris: %v, %v", count, got, ok)
			}
		} else if !ok || count > 0 && (got.Colors[1] != colorOf(count-1, 0, 0, 255) || got.Depths[1] != 100-count+1) {
			t.Errorf("%d tris: %v, %v", count, got, ok)
		}
		heldPaint(t, s, l)
		l = append(l, sheet(100-count, colorOf(count, 0, 0, 255)))
	}
	// those that draw nothing count, too
	if got, ok := impl.PaintTris(s, make([]impl.Tri, 12)); !ok || !sameScreen(got, s) {
		t.Errorf("12 tris without an area: %v, %v", got, ok)
	}
	if got, ok := impl.PaintTris(s, make([]impl.Tri, 13)); ok || !sameScreen(got, impl.Screen{}) {
		t.Errorf("13 tris without an area: %v, %v", got, ok)
	}
}

// One tri that is not good among good ones: nothing is painted at all.
func TestOneWrongAmongGood(t *testing.T) {
	t.Parallel()
	s, _ := impl.NewScreen(2, 2, impl.Color{})
	for at := range 12 {
		for corner := range 3 {
			for which, number := range []int{4097, -4097, 65536} {
				for _, shape := range []impl.Tri{sheet(5, red), triOf("8 8|8 8|8 8")} {
					l := slices.Repeat([]impl.Tri{sheet(5, red)}, 12)
					l[at] = withNumber(shape, corner, which, number)
					if got, ok := impl.PaintTris(s, l); ok || !sameScreen(got, impl.Screen{}) {
						t.Errorf("%v at %d is painted", l[at], at)
					}
				}
			}
		}
		l := slices.Repeat([]impl.Tri{sheet(5, red)}, 12)
		l[at].Color = colorOf(0, 0, 0, 256)
		if got, ok := impl.PaintTris(s, l); ok || !sameScreen(got, impl.Screen{}) {
			t.Errorf("%v at %d is painted", l[at], at)
		}
	}
}
