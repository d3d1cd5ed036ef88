package tests

import (
	"math"
	"slices"
	"sync"
	"testing"

	"loop.example/g00053/impl"
)

// spot: a place without a depth.
type spot struct{ x, y int }

// sideOf: above 0 on one side of the line through two spots, below 0 on the other one,
// 0 on it.
func sideOf(p, q, of spot) int { return (q.x-p.x)*(of.y-p.y) - (q.y-p.y)*(of.x-p.x) }

func triWith(p, q, r spot, color impl.Color) impl.Tri {
	return impl.Tri{A: impl.Corner{X: p.x, Y: p.y}, B: impl.Corner{X: q.x, Y: q.y}, C: impl.Corner{X: r.x, Y: r.y}, Color: color}
}

// innerOf: strictly within three spots.
func innerOf(p, q, r, of spot) bool {
	sides := []int{sideOf(p, q, of), sideOf(q, r, of), sideOf(r, p, of)}
	return slices.Min(sides) > 0 || slices.Max(sides) < 0
}

// amidst: on the line between two spots, on neither of them.
func amidst(p, q, of spot) bool {
	return sideOf(p, q, of) == 0 && (of.x-p.x)*(of.x-q.x)+(of.y-p.y)*(of.y-q.y) < 0
}

// drawnWay: by any order of its corners.
func (c chance) drawnWay(t impl.Tri) impl.Tri { return turnsOf(t)[c.Intn(6)] }

func (c chance) spotBy(coordinate func() int) spot { return spot{coordinate(), coordinate()} }

// pixelPoint: a coordinate at which pixels have their points, or one close to it.
func (c chance) pixelPoint() int {
	return c.oneOf(16*c.Intn(10)-8, 16*c.Intn(10)-8, 16*c.Intn(10)-8, c.Intn(160)-8)
}

// sharing: four spots of which the last two lie on both sides of the first two.
func (c chance) sharing(coordinate func() int) [4]spot {
	for {
		p, q, r, s := c.spotBy(coordinate), c.spotBy(coordinate), c.spotBy(coordinate), c.spotBy(coordinate)
		if sideOf(p, q, r) < 0 && sideOf(p, q, s) > 0 {
			return [4]spot{p, q, r, s}
		}
	}
}

// Promise 17: of two tris on both sides of an edge each point of either, and each on
// the edge between, is covered by just one of them.
func TestPromise17SharedEdges(t *testing.T) {
	t.Parallel()
	c := newChance(318)
	onEdge := 0
	for range 6000 {
		x := c.sharing(c.smallCoordinate)
		one, other := c.drawnWay(triWith(x[0], x[1], x[2], red)), c.drawnWay(triWith(x[1], x[0], x[3], red))
		for y := -2; y <= 12; y++ {
			for atX := -2; atX <= 12; atX++ {
				of := spot{atX, y}
				a, b := impl.CoversPoint(one, atX, y), impl.CoversPoint(other, atX, y)
				if a && b {
					t.Errorf("%v and %v both cover %v", one, other, of)
				}
				between := amidst(x[0], x[1], of)
				if between {
					onEdge++
				}
				if (between || innerOf(x[0], x[1], x[2], of) || innerOf(x[0], x[1], x[3], of)) && !a && !b {
					t.Errorf("neither %v nor %v covers %v", one, other, of)
				}
			}
		}
	}
	if onEdge < 2000 {
		t.Errorf("%d points lie on an edge", onEdge)
	}
}

// Promise 17: the same of pixels, where the shared edge runs through their points.
func TestPromise17SharedEdgesThroughPixels(t *testing.T) {
	t.Parallel()
	c := newChance(319)
	onEdge := 0
	for range 8000 {
		x := c.sharing(c.pixelPoint)
		one, _ := impl.CoverOf(c.drawnWay(triWith(x[0], x[1], x[2], red)), 10, 10)
		other, _ := impl.CoverOf(c.drawnWay(triWith(x[1], x[0], x[3], red)), 10, 10)
		for number := range 100 {
			of := spot{16*(number%10) + 8, 16*(number/10) + 8}
			a, b := slices.Contains(one, number), slices.Contains(other, number)
			if a && b {
				t.Errorf("pixel %d is covered on both sides of %v", number, x)
			}
			between := amidst(x[0], x[1], of)
			if between {
				onEdge++
			}
			if (between || innerOf(x[0], x[1], x[2], of) || innerOf(x[0], x[1], x[3], of)) && !a && !b {
				t.Errorf("pixel %d is covered on no side of %v", number, x)
			}
		}
	}
	if onEdge < 2000 {
		t.Errorf("%d points lie on an edge", onEdge)
	}
}

// fourSided: spots around a figure that has no corner within.
func (c chance) fourSided(coordinate func() int) [4]spot {
	for {
		x := [4]spot{c.spotBy(coordinate), c.spotBy(coordinate), c.spotBy(coordinate), c.spotBy(coordinate)}
		good := true
		for at := range x {
			good = good && sideOf(x[at], x[(at+1)%4], x[(at+2)%4]) > 0
		}
		if good {
			return x
		}
	}
}

// bothCovers: the pixels of two tris, as they come.
func bothCovers(one, other impl.Tri) []int {
	a, _ := impl.CoverOf(one, 24, 24)
	b, _ := impl.CoverOf(other, 24, 24)
	return slices.Sorted(slices.Values(slices.Concat(a, b)))
}

// Promise 17: a figure of four sides, cut along one way and along the other, covers the
// same points, none of them twice.
func TestPromise17CutEitherWay(t *testing.T) {
	t.Parallel()
	c := newChance(320)
	for n := range 3000 {
		coordinate := c.pixelPoint
		if n%2 == 0 {
			coordinate = c.someCoordinate
		}
		x := c.fourSided(coordinate)
		along := bothCovers(c.drawnWay(triWith(x[0], x[1], x[2], red)), c.drawnWay(triWith(x[0], x[2], x[3], red)))
		across := bothCovers(c.drawnWay(triWith(x[1], x[2], x[3], red)), c.drawnWay(triWith(x[1], x[3], x[0], red)))
		if !slices.Equal(along, across) || len(slices.Compact(along)) != len(across) {
			t.Errorf("%v covers %v, and %v", x, along, across)
		}
	}
	for range 2000 {
		x := c.fourSided(c.smallCoordinate)
		along := []impl.Tri{triWith(x[0], x[1], x[2], red), triWith(x[0], x[2], x[3], red)}
		across := []impl.Tri{triWith(x[1], x[2], x[3], red), triWith(x[1], x[3], x[0], red)}
		for y := -2; y <= 12; y++ {
			for atX := -2; atX <= 12; atX++ {
				a, b := countCovering(along, atX, y), countCovering(across, atX, y)
				if a != b || a > 1 {
					t.Errorf("%v covers %d, %d as often as %d, and %d", x, atX, y, a, b)
				}
			}
		}
	}
}

// countCovering: how many tris cover a point.
func countCovering(l []impl.Tri, x, y int) int {
	count := 0
	for _, t := range l {
		if impl.CoversPoint(t, x, y) {
			count++
		}
	}
	return count
}

// Promise 17: a tri that is cut from a point within, or on a side, to its corners
// covers what its parts cover, each point once.
func TestPromise17PartsOfTris(t *testing.T) {
	t.Parallel()
	c := newChance(321)
	cut := 0
	for range 20000 {
		p, q, r, m := c.spotBy(c.smallCoordinate), c.spotBy(c.smallCoordinate), c.spotBy(c.smallCoordinate), c.spotBy(c.smallCoordinate)
		if !innerOf(p, q, r, m) && !amidst(p, q, m) {
			continue
		}
		cut++
		whole := triWith(p, q, r, red)
		parts := []impl.Tri{c.drawnWay(triWith(p, q, m, red)), c.drawnWay(triWith(q, r, m, red)), c.drawnWay(triWith(r, p, m, red))}
		for y := -2; y <= 12; y++ {
			for atX := -2; atX <= 12; atX++ {
				if got, want := countCovering(parts, atX, y), countCovering([]impl.Tri{whole}, atX, y); got != want {
					t.Errorf("parts of %v by %v cover %d, %d as often as %d", whole, m, atX, y, got)
				}
			}
		}
	}
	if cut < 500 {
		t.Errorf("%d tris are cut", cut)
	}
}

// mesh: tris around spots that lie about in rows and columns, each next to the others,
// around a screen of 24 by 24.
func (c chance) mesh() []impl.Tri {
	var at [7][7]spot
	for down := range at {
		for right := range at[down] {
			at[down][right] = spot{80*right - 48 + c.oneOf(0, 0, c.Intn(30)), 80*down - 48 + c.oneOf(0, 8, c.Intn(30))}
		}
	}
	var l []impl.Tri
	for down := range 6 {
		for right := range 6 {
			a, b, d, e := at[down][right], at[down][right+1], at[down+1][right], at[down+1][right+1]
			if c.Intn(2) == 0 {
				l = append(l, c.drawnWay(triWith(a, b, d, faint)), c.drawnWay(triWith(b, d, e, faint)))
			} else {
				l = append(l, c.drawnWay(triWith(a, b, e, faint)), c.drawnWay(triWith(a, d, e, faint)))
			}
		}
	}
	return l
}

// Promise 17: many tris side by side cover each pixel once, and paint it once.
func TestPromise17ManySideBySide(t *testing.T) {
	t.Parallel()
	c := newChance(322)
	for range 60 {
		l := c.mesh()
		var numbers []int
		for _, x := range l {
			got, _ := impl.CoverOf(x, 24, 24)
			numbers = append(numbers, got...)
		}
		slices.Sort(numbers)
		if !slices.Equal(numbers, upTo(576)) {
			t.Errorf("%v cover %v", l, numbers)
		}
		s, _ := impl.NewScreen(24, 24, colorOf(0, 0, 0, 255))
		for part := range slices.Chunk(l, 12) {
			s, _ = impl.PaintTris(s, part)
		}
		want, _ := impl.BlendColor(faint, colorOf(0, 0, 0, 255))
		if slices.ContainsFunc(s.Colors, func(got impl.Color) bool { return got != want }) {
			t.Errorf("%v is painted by %v", s, l)
		}
	}
}

// Promise 17: a list painted in two parts, cut at every place, is painted as at once.
func TestPromise17PartsPainted(t *testing.T) {
	t.Parallel()
	c := newChance(323)
	for n := range 250 {
		s, l := c.someScreen(), c.someTris(n%13)
		whole, ok := impl.PaintTris(s, l)
		if !ok {
			t.Fatalf("%v is not painted", l)
		}
		for at := range len(l) + 1 {
			first, is := impl.PaintTris(s, l[:at])
			second, still := impl.PaintTris(first, l[at:])
			if !is || !still || !sameScreen(second, whole) {
				t.Errorf("%v cut at %d is painted otherwise", l, at)
			}
		}
		one := s
		for at := range l {
			one, _ = impl.PaintTris(one, l[at:at+1])
		}
		if !sameScreen(one, whole) {
			t.Errorf("%v one by one is painted otherwise", l)
		}
	}
}

// Promise 17: what is painted has the pixels of the tris' covers alone, and no pixel
// comes to lie further behind.
func TestPromise17OnlyWhatIsCovered(t *testing.T) {
	t.Parallel()
	c := newChance(324)
	for range 600 {
		s, l := c.someScreen(), c.someTris(1+c.Intn(3))
		got, _ := impl.PaintTris(s, l)
		covered := map[int]bool{}
		for _, x := range l {
			numbers, _ := impl.CoverOf(x, s.Wide, s.High)
			for _, number := range numbers {
				covered[number] = true
			}
		}
		for at := range s.Colors {
			if !covered[at] && (got.Colors[at] != s.Colors[at] || got.Depths[at] != s.Depths[at]) || got.Depths[at] > s.Depths[at] {
				t.Errorf("pixel %d of %v has become %v at %d", at, l, got.Colors[at], got.Depths[at])
			}
		}
	}
}

// Promise 16 still: by each format, each edge and all sides a sample at a color's point
// is that color, what lies off it lies between, and one color is one color everywhere.
func TestPromise16ByEachEdgeAndFormat(t *testing.T) {
	t.Parallel()
	c := newChance(325)
	sides := []int{1, 2, 4, 8, 16}
	for n := range 3 * 4 * 25 {
		format, edge, wide, high := 1+n%3, 1+n/3%4, sides[n/12%5], sides[n/60]
		x, _ := impl.WithMips(wide, high, format, c.colors(wide*high))
		border, alike := c.color(), c.color()
		plain, _ := impl.WithMips(wide, high, format, slices.Repeat([]impl.Color{alike}, wide*high))
		kept, _ := impl.UnpackColor(format, impl.PackColor(format, alike))
		for range 40 {
			atX, atY := c.Intn(wide+4)-2, c.Intn(high+4)-2
			var around []impl.Color
			for at := range 4 {
				color, _ := impl.FetchColor(x, 0, atX+at%2, atY+at/2, edge, border)
				around = append(around, color)
			}
			if got, ok := impl.SampleColor(x, 0, 256*atX+128, 256*atY+128, edge, border); got != around[0] || !ok {
				t.Errorf("%v at %d, %d by %d: %v, want %v", x, atX, atY, edge, got, around[0])
			}
			if got, ok := impl.SampleColor(x, 0, 256*atX+128+c.Intn(256), 256*atY+128+c.Intn(256), edge, border); !ok || !liesBetween(got, around...) {
				t.Errorf("%v by %d: %v is not between %v", x, edge, got, around)
			}
			if got, ok := impl.SampleBetween(plain, c.Intn(256*len(plain.Levels)-255), c.somePoint(wide), c.somePoint(high), edge, kept); got != kept || !ok {
				t.Errorf("%v by %d has become %v", kept, edge, got)
			}
		}
	}
}

// anyTri: most often a good one.
func (c chance) anyTri() impl.Tri {
	t := c.someTri()
	if c.Intn(3) == 0 {
		t = withNumber(t, c.Intn(3), c.Intn(3), c.anyNumber(-4097, -4096, 4096, 4097, 65535))
	}
	if c.Intn(4) == 0 {
		t.Color = c.anyColor()
	}
	return t
}

// changedScreen: with one thing changed.
func (c chance) changedScreen(s impl.Screen) impl.Screen {
	s.Colors, s.Depths = slices.Clone(s.Colors), slices.Clone(s.Depths)
	at := c.Intn(len(s.Colors))
	switch c.Intn(8) {
	case 0:
		s.Wide = c.anyNumber(s.Wide, s.High, 24, 25)
	case 1:
		s.High = c.anyNumber(s.High, s.Wide, 24, 25)
	case 2:
		s.Colors = s.Colors[:at]
	case 3:
		s.Depths = s.Depths[:at]
	case 4:
		s.Colors = append(s.Colors, c.color())
	case 5:
		s.Depths = append(s.Depths, 0)
	case 6:
		s.Colors[at] = c.anyColor()
	case 7:
		s.Depths[at] = c.anyNumber(-1, 0, 65536, 65537)
	}
	return s
}

// Promise 25: tris, points and sides of any kind.
func TestPromise25AnyTris(t *testing.T) {
	t.Parallel()
	c := newChance(326)
	good := [4]int{}
	for range 20000 {
		x := c.anyTri()
		atX, atY := c.anyNumber(c.someCoordinate(), -4096, 4096), c.anyNumber(c.someCoordinate(), -4097, 4096)
		if heldTri(t, x) {
			good[0]++
		}
		if heldCovers(t, x, atX, atY) || heldCovers(t, x, c.someCoordinate(), c.someCoordinate()) {
			good[1]++
		}
		if heldCover(t, x, c.anyNumber(1, 5, 24), c.anyNumber(1, 5, 24)) {
			good[2]++
		}
		if heldDepth(t, x, atX, atY) {
			good[3]++
		}
	}
	for number, n := range good {
		if n < 1000 || n > 17000 {
			t.Errorf("function %d: %d of 20000 are as said", number, n)
		}
	}
}

// Promise 25: colors, screens and lists of any kind.
func TestPromise25AnyScreens(t *testing.T) {
	t.Parallel()
	c := newChance(327)
	good := [4]int{}
	for n := range 3000 {
		s, l := c.someScreen(), c.someTris(c.Intn(4))
		if n%2 == 0 {
			s = c.changedScreen(s)
		}
		if n%5 == 0 {
			l = append(l, c.anyTri(), c.anyTri())
		}
		if n%11 == 0 {
			l = append(l, make([]impl.Tri, 8+c.Intn(5))...)
		}
		if heldBlend(t, c.anyColor(), c.anyColor()) {
			good[0]++
		}
		if heldNewScreen(t, c.anyNumber(1, 7, 24), c.anyNumber(1, 7, 24), c.anyColor()) {
			good[1]++
		}
		if heldScreen(t, s) {
			good[2]++
		}
		if heldPaint(t, s, l) {
			good[3]++
		}
	}
	for number, n := range good {
		if n < 700 || n > 2500 {
			t.Errorf("function %d: %d of 3000 are as said", number, n)
		}
	}
}

// Promise 25: the least and the greatest numbers everywhere, nothing at all, and far
// too much.
func TestPromise25NoScreenAndTooMuch(t *testing.T) {
	t.Parallel()
	ends := []int{math.MinInt, math.MinInt + 1, -1, 0, 1, math.MaxInt - 1, math.MaxInt}
	for n := range 7 * 7 * 7 * 7 {
		a, b, d, e := ends[n%7], ends[n/7%7], ends[n/49%7], ends[n/343]
		x := impl.Tri{A: impl.Corner{X: a, Y: b, Z: d}, B: impl.Corner{X: e, Y: a, Z: b}, C: impl.Corner{X: b, Y: d, Z: a}, Color: colorOf(a, b, d, e)}
		heldTri(t, x)
		heldCovers(t, x, d, e)
		heldCover(t, x, a, b)
		heldDepth(t, x, d, e)
		heldBlend(t, colorOf(a, b, d, e), colorOf(e, d, b, a))
		heldNewScreen(t, a, b, colorOf(d, e, d, e))
		heldScreen(t, impl.Screen{Wide: a, High: b, Colors: []impl.Color{colorOf(d, d, e, e)}, Depths: []int{e}})
	}
	one, _ := impl.NewScreen(1, 1, impl.Color{})
	for _, count := range []int{0, 1, 25, 576, 1 << 20} {
		for _, side := range []int{math.MinInt, -1, 0, 24, 25, 1 << 10, 1 << 32, math.MaxInt} {
			s := screenOf(side, side, count, count)
			want := count == 576 && side == 24
			_, ok := impl.PaintTris(s, nil)
			if got := impl.GoodScreen(s); got != want || ok != want {
				t.Errorf("%d colors for sides of %d: %v, %v", count, side, got, ok)
			}
			refusedScreen(t, impl.Screen{Wide: side, High: side})
			refusedScreen(t, impl.Screen{Wide: side, High: side, Colors: s.Colors})
			refusedScreen(t, impl.Screen{Wide: side, High: side, Depths: s.Depths})
		}
		got, ok := impl.PaintTris(one, make([]impl.Tri, count))
		if good := count <= 12; ok != good || good && !sameScreen(got, one) || !good && !sameScreen(got, impl.Screen{}) {
			t.Errorf("%d tris: %v, %v", count, got, ok)
		}
	}
}

// Promise 25: nothing is written into a screen or a list, no answer hangs on what lies
// behind them, and what is painted is new memory.
func TestPromise25ScreensAreNewMemory(t *testing.T) {
	t.Parallel()
	c := newChance(328)
	for n := range 600 {
		was, tris := c.someScreen(), c.someTris(n%5)
		if n%7 == 0 {
			was = c.changedScreen(was)
		}
		given := impl.Screen{Wide: was.Wide, High: was.High, Colors: behind(was.Colors), Depths: behind(was.Depths)}
		list := behind(tris)
		want, good := wantPaint(was, tris)
		first, ok := impl.PaintTris(given, list)
		second, _ := impl.PaintTris(given, list)
		heldScreen(t, given)
		if ok != good || !sameScreen(first, want) || !sameScreen(second, want) {
			t.Errorf("%v is painted otherwise", tris)
		}
		clear(first.Colors[:cap(first.Colors)])
		clear(first.Depths[:cap(first.Depths)])
		if !unchanged(given.Colors, was.Colors) || !unchanged(given.Depths, was.Depths) || !unchanged(list, tris) {
			t.Errorf("%v or the screen is changed", tris)
		}
		clear(given.Colors[:cap(given.Colors)])
		clear(given.Depths[:cap(given.Depths)])
		clear(list[:cap(list)])
		if third, _ := impl.PaintTris(was, tris); !sameScreen(second, want) || !sameScreen(third, want) {
			t.Errorf("what PaintTris answers is changed by another answer")
		}
	}
}

// Promise 25: covers and new screens are new memory.
func TestPromise25CoversAreNewMemory(t *testing.T) {
	t.Parallel()
	c := newChance(329)
	for range 1000 {
		x, wide, high, color := c.someTri(), 1+c.Intn(24), 1+c.Intn(24), c.color()
		cover, _ := wantCover(x, wide, high)
		screen, _ := wantNewScreen(wide, high, color)
		first, _ := impl.CoverOf(x, wide, high)
		second, _ := impl.CoverOf(x, wide, high)
		one, _ := impl.NewScreen(wide, high, color)
		two, _ := impl.NewScreen(wide, high, color)
		clear(first[:cap(first)])
		clear(one.Colors[:cap(one.Colors)])
		clear(one.Depths[:cap(one.Depths)])
		third, _ := impl.CoverOf(x, wide, high)
		three, _ := impl.NewScreen(wide, high, color)
		if !slices.Equal(second, cover) || !slices.Equal(third, cover) || !sameScreen(two, screen) || !sameScreen(three, screen) {
			t.Errorf("what CoverOf or NewScreen answers is changed by another answer")
		}
	}
}

// Promise 25: answers hang on what is given alone, also where many are asked at once.
func TestPromise25TrianglesAtOnce(t *testing.T) {
	t.Parallel()
	c := newChance(330)
	for range 40 {
		s, l := c.someScreen(), c.someTris(6)
		want, _ := impl.PaintTris(s, l)
		cover, _ := impl.CoverOf(l[0], 24, 24)
		painted, covers := make([]impl.Screen, 16), make([][]int, 16)
		var all sync.WaitGroup
		for at := range painted {
			all.Go(func() {
				painted[at], _ = impl.PaintTris(s, l)
				covers[at], _ = impl.CoverOf(l[0], 24, 24)
			})
		}
		all.Wait()
		for at := range painted {
			if !sameScreen(painted[at], want) || !slices.Equal(covers[at], cover) {
				t.Errorf("%v is painted otherwise at once", l)
			}
		}
	}
}
