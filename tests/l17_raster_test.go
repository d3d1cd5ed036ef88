package tests

import (
	"slices"
	"testing"

	"loop.example/g00053/impl"
)

func sameScreen(a, b impl.Screen) bool {
	return a.Wide == b.Wide && a.High == b.High && slices.Equal(a.Colors, b.Colors) && slices.Equal(a.Depths, b.Depths)
}

// Each heldX: a function answers, at any arguments, as it is worked out another way;
// whether these are as said.

func heldTri(t *testing.T, x impl.Tri) bool {
	t.Helper()
	want := wantTri(x)
	if got := impl.GoodTri(x); got != want {
		t.Errorf("GoodTri(%v) = %v", x, got)
	}
	if got := impl.AreaOf(x); got != wantArea(x) {
		t.Errorf("AreaOf(%v) = %d, want %d", x, got, wantArea(x))
	}
	return want
}

// heldCovers: whether the point is covered.
func heldCovers(t *testing.T, x impl.Tri, atX, atY int) bool {
	t.Helper()
	want := wantCovers(x, atX, atY)
	if got := impl.CoversPoint(x, atX, atY); got != want {
		t.Errorf("CoversPoint(%v, %d, %d) = %v", x, atX, atY, got)
	}
	return want
}

func heldCover(t *testing.T, x impl.Tri, wide, high int) bool {
	t.Helper()
	want, good := wantCover(x, wide, high)
	if got, ok := impl.CoverOf(x, wide, high); !slices.Equal(got, want) || ok != good {
		t.Errorf("CoverOf(%v, %d, %d) = %v, %v, want %v, %v", x, wide, high, got, ok, want, good)
	}
	return good
}

func heldDepth(t *testing.T, x impl.Tri, atX, atY int) bool {
	t.Helper()
	want, good := wantDepth(x, atX, atY)
	if got, ok := impl.DepthAt(x, atX, atY); got != want || ok != good {
		t.Errorf("DepthAt(%v, %d, %d) = %d, %v, want %d, %v", x, atX, atY, got, ok, want, good)
	}
	return good
}

func heldBlend(t *testing.T, from, to impl.Color) bool {
	t.Helper()
	want, good := wantBlend(from, to)
	if got, ok := impl.BlendColor(from, to); got != want || ok != good {
		t.Errorf("BlendColor(%v, %v) = %v, %v, want %v, %v", from, to, got, ok, want, good)
	}
	return good
}

func heldNewScreen(t *testing.T, wide, high int, color impl.Color) bool {
	t.Helper()
	want, good := wantNewScreen(wide, high, color)
	if got, ok := impl.NewScreen(wide, high, color); !sameScreen(got, want) || ok != good || impl.GoodScreen(got) != good {
		t.Errorf("NewScreen(%d, %d, %v) = %v, %v", wide, high, color, got, ok)
	}
	return good
}

func heldScreen(t *testing.T, s impl.Screen) bool {
	t.Helper()
	want := wantScreen(s)
	if got := impl.GoodScreen(s); got != want {
		t.Errorf("GoodScreen of %d by %d with %d colors, %d depths = %v", s.Wide, s.High, len(s.Colors), len(s.Depths), got)
	}
	return want
}

func heldPaint(t *testing.T, s impl.Screen, l []impl.Tri) bool {
	t.Helper()
	want, good := wantPaint(s, l)
	if got, ok := impl.PaintTris(s, l); !sameScreen(got, want) || ok != good || impl.GoodScreen(got) != good {
		t.Errorf("PaintTris(%v, %v) = %v, %v, want %v, %v", s, briefly(l), got, ok, want, good)
	}
	return good
}

// someCoordinate: often a pixel's point or between two, on the screen or near to it,
// sometimes far off.
func (c chance) someCoordinate() int {
	near := c.Intn(28) - 2
	return c.oneOf(16*near+8, 16*near+8, 16*near, c.Intn(384), c.Intn(384), c.Intn(800)-200, c.Intn(8193)-4096, -4096, 4096)
}

// smallCoordinate: so that sides meet the points of a small field often.
func (c chance) smallCoordinate() int { return c.Intn(12) - 1 }

func (c chance) someDepth() int {
	return c.oneOf(0, 65535, c.Intn(65536), c.Intn(65536), 1000+c.Intn(4), c.Intn(100))
}

func (c chance) triBy(coordinate func() int) impl.Tri {
	corner := func() impl.Corner { return impl.Corner{X: coordinate(), Y: coordinate(), Z: c.someDepth()} }
	return impl.Tri{A: corner(), B: corner(), C: corner(), Color: c.color()}
}

// someTri: some have a level side, some an upright one, some no area.
func (c chance) someTri() impl.Tri {
	t := c.triBy(c.someCoordinate)
	switch c.Intn(8) {
	case 0:
		t.B.Y = t.A.Y
	case 1:
		t.C.X = t.A.X
	case 2:
		t.C.Y = t.B.Y
		t.A.X = t.B.X
	case 3:
		if c.Intn(3) == 0 {
			t.C.X, t.C.Y = t.B.X, t.B.Y
		}
	}
	return t
}

func (c chance) someTris(n int) []impl.Tri {
	var l []impl.Tri
	for range n {
		l = append(l, c.someTri())
	}
	return l
}

// someScreen: as it was made, or with any colors and depths.
func (c chance) someScreen() impl.Screen {
	wide, high := 1+c.Intn(24), 1+c.Intn(24)
	s, _ := wantNewScreen(wide, high, c.color())
	if c.Intn(2) == 0 {
		for at := range s.Colors {
			s.Colors[at] = c.color()
			s.Depths[at] = c.oneOf(65536, 65535, 0, c.someDepth(), c.someDepth())
		}
	}
	return s
}

// turnsOf: a tri by each order of its corners.
func turnsOf(t impl.Tri) []impl.Tri {
	a, b, c := t.A, t.B, t.C
	var l []impl.Tri
	for _, corners := range [][3]impl.Corner{{a, b, c}, {b, c, a}, {c, a, b}, {a, c, b}, {c, b, a}, {b, a, c}} {
		l = append(l, impl.Tri{A: corners[0], B: corners[1], C: corners[2], Color: t.Color})
	}
	return l
}

func TestCoveringDrawnPoints(t *testing.T) {
	t.Parallel()
	c := newChance(307)
	covered := 0
	for range 60000 {
		x := c.someTri()
		if !heldTri(t, x) {
			t.Errorf("%v is not taken", x)
		}
		at := cornersOf(x)[c.Intn(3)]
		if heldCovers(t, x, c.someCoordinate(), c.someCoordinate()) {
			covered++
		}
		if heldCovers(t, x, at.X, at.Y) {
			covered++
		}
	}
	if covered < 10000 {
		t.Errorf("%d points are covered", covered)
	}
}

// All points of a small field, many of them on sides and on corners.
func TestCoveringAllAround(t *testing.T) {
	t.Parallel()
	c := newChance(308)
	for range 4000 {
		x := c.triBy(c.smallCoordinate)
		for y := -2; y <= 12; y++ {
			for atX := -2; atX <= 12; atX++ {
				heldCovers(t, x, atX, y)
			}
		}
	}
}

func TestCoversOfDrawnTris(t *testing.T) {
	t.Parallel()
	c := newChance(309)
	some := 0
	for range 12000 {
		x := c.someTri()
		wide, high := 1+c.Intn(24), 1+c.Intn(24)
		if !heldCover(t, x, wide, high) || !heldCover(t, x, 24, 24) {
			t.Errorf("%v is not taken", x)
		}
		if got, _ := impl.CoverOf(x, wide, high); len(got) > 0 {
			some++
		}
	}
	if some < 3000 {
		t.Errorf("%d tris cover something", some)
	}
}

func TestDepthsOfDrawnTris(t *testing.T) {
	t.Parallel()
	c := newChance(310)
	good, below, above := 0, 0, 0
	for range 60000 {
		x, atX, atY := c.someTri(), c.someCoordinate(), c.someCoordinate()
		if heldDepth(t, x, atX, atY) {
			good++
		}
		switch deep, _ := impl.DepthAt(x, atX, atY); {
		case deep < 0:
			below++
		case deep > 65535:
			above++
		}
		heldDepth(t, c.triBy(c.smallCoordinate), c.oneOf(c.smallCoordinate(), atX), c.oneOf(c.smallCoordinate(), atY))
	}
	if good < 50000 || below < 5000 || above < 5000 {
		t.Errorf("%d points have a depth, %d below 0, %d beyond the deepest", good, below, above)
	}
}

func TestBlendingDrawnColors(t *testing.T) {
	t.Parallel()
	c := newChance(311)
	for range 60000 {
		from, to := c.color(), c.color()
		if !heldBlend(t, from, to) {
			t.Errorf("%v upon %v is not taken", from, to)
		}
	}
	// every part upon every part
	for a := range 256 {
		for part := range 256 {
			heldBlend(t, colorOf(part, 255-part, 0, a), colorOf(0, part, part, part))
			heldBlend(t, colorOf(part, 255, 1, a), colorOf(255, 254, 255-part, 255-part))
		}
	}
}

func TestPaintingDrawnTris(t *testing.T) {
	t.Parallel()
	c := newChance(312)
	for range 1500 {
		s := c.someScreen()
		if !heldScreen(t, s) || !heldPaint(t, s, c.someTris(c.Intn(13))) || !heldNewScreen(t, s.Wide, s.High, c.color()) {
			t.Errorf("%d by %d is not taken", s.Wide, s.High)
		}
	}
}

// A tri by each order of its corners is the same tri, but for the sign of its area.
func TestTurnedTrisAreAlike(t *testing.T) {
	t.Parallel()
	c := newChance(313)
	for range 1500 {
		x := c.someTri()
		area := impl.AreaOf(x)
		cover, _ := impl.CoverOf(x, 24, 24)
		s := c.someScreen()
		painted, _ := impl.PaintTris(s, []impl.Tri{x})
		for at, turned := range turnsOf(x) {
			sign := 1 - at/3*2
			if got := impl.AreaOf(turned); got != sign*area {
				t.Errorf("AreaOf(%v) = %d, want %d", turned, got, sign*area)
			}
			if got, ok := impl.CoverOf(turned, 24, 24); !slices.Equal(got, cover) || !ok {
				t.Errorf("CoverOf(%v) = %v, %v, want %v", turned, got, ok, cover)
			}
			if got, ok := impl.PaintTris(s, []impl.Tri{turned}); !sameScreen(got, painted) || !ok {
				t.Errorf("%v is painted otherwise than %v", turned, x)
			}
			for range 5 {
				atX, atY := c.someCoordinate(), c.someCoordinate()
				want, is := impl.DepthAt(x, atX, atY)
				if got, ok := impl.DepthAt(turned, atX, atY); got != want || ok != is || impl.CoversPoint(turned, atX, atY) != impl.CoversPoint(x, atX, atY) {
					t.Errorf("%v at %d, %d: %d, %v, want %d, %v", turned, atX, atY, got, ok, want, is)
				}
			}
		}
	}
}
