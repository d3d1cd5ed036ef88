package tests

import (
	"math"
	"slices"
	"testing"

	"loop.example/g00053/impl"
)

// The edges that chapter 17 names of tris, what they cover and how deep they are, with
// what is answered written out.

// triOf: of three corners with `|` between them, each X and Y, or X, Y and Z.
func triOf(text string) impl.Tri {
	var corners [3]impl.Corner
	for at, numbers := range setsOf(text) {
		corners[at] = impl.Corner{X: numbers[0], Y: numbers[1]}
		if len(numbers) > 2 {
			corners[at].Z = numbers[2]
		}
	}
	return impl.Tri{A: corners[0], B: corners[1], C: corners[2], Color: colorOf(1, 2, 3, 4)}
}

// withNumber: a tri in which one number of a corner (0, 1, 2: X, Y, Z) is another one.
func withNumber(t impl.Tri, corner, which, number int) impl.Tri {
	c := []*impl.Corner{&t.A, &t.B, &t.C}[corner]
	*[]*int{&c.X, &c.Y, &c.Z}[which] = number
	return t
}

// Numbers that are no X, no Y and no Z.
var noCoordinates = []int{math.MinInt, math.MinInt + 1, math.MinInt / 2, -1 << 61, -1 << 32, -1<<32 + 16, -65536, -4098, -4097, 4097, 4098, 8192, 65536, 1 << 32, 1<<32 + 16, 1 << 61, 1 << 62, math.MaxInt - 1, math.MaxInt}
var noDepths = []int{math.MinInt, math.MinInt + 1, -1 << 61, -1 << 32, -65535, -4096, -2, -1, 65536, 65537, 1 << 17, 1 << 32, 1<<32 + 1, 1 << 61, 1 << 62, math.MaxInt - 1, math.MaxInt}

func TestConstantsOfTriangles(t *testing.T) {
	t.Parallel()
	if got := []int{impl.MaxPlace, impl.MaxScreen, impl.MaxTriangles}; !slices.Equal(got, []int{4096, 24, 12}) {
		t.Errorf("constants %v", got)
	}
}

// refusedTri: nothing is answered of a tri that is not good.
func refusedTri(t *testing.T, x impl.Tri) {
	t.Helper()
	deep, hasDepth := impl.DepthAt(x, 8, 8)
	cover, ok := impl.CoverOf(x, 4, 4)
	s, _ := wantNewScreen(2, 2, impl.Color{})
	painted, isPainted := impl.PaintTris(s, []impl.Tri{x})
	if impl.GoodTri(x) || impl.AreaOf(x) != 0 || impl.CoversPoint(x, 8, 8) || deep != 0 || hasDepth || len(cover) > 0 || ok || isPainted || !sameScreen(painted, impl.Screen{}) {
		t.Errorf("%v is taken: area %d, depth %d, cover %v", x, impl.AreaOf(x), deep, cover)
	}
}

func TestGoodTris(t *testing.T) {
	t.Parallel()
	x := triOf("0 0 0|64 0 100|0 64 65535")
	for corner := range 3 {
		for which, numbers := range [][]int{{-4096, -4095, 0, 4095, 4096}, {-4096, -4095, 0, 4095, 4096}, {0, 1, 65534, 65535}} {
			for _, number := range numbers {
				if !heldTri(t, withNumber(x, corner, which, number)) || !impl.GoodTri(withNumber(x, corner, which, number)) {
					t.Errorf("number %d of corner %d may not be %d", which, corner, number)
				}
			}
			wrong := noCoordinates
			if which == 2 {
				wrong = noDepths
			}
			for _, number := range wrong {
				refusedTri(t, withNumber(x, corner, which, number))
				refusedTri(t, withNumber(triOf("8 8|8 8|8 8"), corner, which, number))
			}
		}
	}
	for _, wrong := range wrongColors() {
		x.Color = wrong
		refusedTri(t, x)
	}
	if !impl.GoodTri(impl.Tri{}) || !impl.GoodTri(triOf("8 8|8 8|8 8")) {
		t.Error("a tri without an area is not good")
	}
}

// All corners so far off that the products would wrap round to those of a good tri.
func TestTrisThatWrapRound(t *testing.T) {
	t.Parallel()
	for _, far := range []int{1 << 32, 1 << 58, 1 << 61, 1 << 62, -1 << 62, math.MinInt} {
		x := triOf("0 0|64 0|0 64")
		for corner, c := range cornersOf(x) {
			x = withNumber(withNumber(x, corner, 0, c.X+far), corner, 1, c.Y+far)
		}
		refusedTri(t, x)
		refusedTri(t, withNumber(triOf("0 0|64 0|0 64"), 1, 0, 64+far))
	}
}

func TestAreas(t *testing.T) {
	t.Parallel()
	for text, want := range map[string]int{
		"0 0|64 0|64 64":                        4096,
		"0 0|64 64|64 0":                        -4096,
		"0 0|1 0|0 1":                           1,
		"0 0|0 1|1 0":                           -1,
		"0 0|4 1|1 4":                           15,
		"-3 -2|5 -2|5 7":                        72,
		"10 10|13 12|11 17":                     19,
		"-4096 -4096|4096 -4096|4096 4096":      67108864,
		"-4096 -4096|4096 4096|4096 -4096":      -67108864,
		"-4096 -4096|4096 -4096|-4096 4096":     67108864,
		"-4096 -4096|4096 -4096|17 4096":        67108864,
		"4096 4096|-4096 4096|-4096 -4096":      67108864,
		"4096 -4096|-4096 -4096|-4096 4096":     -67108864,
		"-4096 -4096|4096 4096|4096 4095":       -8192,
		"-4096 -4096|4096 4095|4095 4095":       8191,
		"0 0|0 0|0 0":                           0,
		"5 5|5 5|9 1":                           0,
		"5 5|9 1|5 5":                           0,
		"9 1|5 5|5 5":                           0,
		"0 0|1 1|2 2":                           0,
		"-4096 -4096|0 0|4096 4096":             0,
		"-4096 7|4096 7|12 7":                   0,
		"7 -4096|7 4096|7 12":                   0,
		"-4096 4096|4096 -4096|-1 1":            0,
		"0 0|3 2|-9 -6":                         0,
		"0 0 0|0 0 65535|0 0 9":                 0,
		"0 0 65535|64 0 3|64 64 17":             4096,
		"-4096 -4096 65535|4096 0 0|4096 1 777": 8192,
	} {
		for at, turned := range turnsOf(triOf(text)) {
			sign := 1 - at/3*2
			if got := impl.AreaOf(turned); got != sign*want {
				t.Errorf("AreaOf(%v) = %d, want %d", turned, got, sign*want)
			}
			heldTri(t, turned)
		}
	}
	// no other has a greater one than half of all places
	c := newChance(314)
	for range 20000 {
		x := c.triBy(func() int { return c.oneOf(-4096, 4096, c.Intn(8193)-4096) })
		if area := impl.AreaOf(x); area > 67108864 || area < -67108864 {
			t.Errorf("AreaOf(%v) = %d", x, area)
		}
	}
}

// shows: which points are covered from one place on, by each order of corners.
func shows(t *testing.T, text string, fromX, fromY int, rows ...string) {
	t.Helper()
	for _, x := range turnsOf(triOf(text)) {
		for down, row := range rows {
			for right, mark := range row {
				if got := impl.CoversPoint(x, fromX+right, fromY+down); got != (mark == '#') {
					t.Errorf("CoversPoint(%v, %d, %d) = %v", x, fromX+right, fromY+down, got)
				}
				heldCovers(t, x, fromX+right, fromY+down)
			}
		}
	}
}

// The upper side and the left one are first ones, where the corner is upright; points
// on the others, and corners that lie on another one, are not covered.
func TestPointsOfUprightCorners(t *testing.T) {
	t.Parallel()
	shows(t, "0 0|4 0|0 4", -1, -1,
		".......",
		".####..",
		".###...",
		".##....",
		".#.....",
		".......",
		".......")
	shows(t, "4 4|0 4|4 0", -1, -1,
		".......",
		".......",
		"....#..",
		"...##..",
		"..###..",
		".......",
		".......")
	shows(t, "4 0|4 4|0 0", -1, -1,
		".......",
		".####..",
		"..###..",
		"...##..",
		"....#..",
		".......",
		".......")
	shows(t, "0 4|0 0|4 4", -1, -1,
		".......",
		".......",
		".#.....",
		".##....",
		".###...",
		".......",
		".......")
}

func TestPointsOfLevelSides(t *testing.T) {
	t.Parallel()
	// at the bottom
	shows(t, "2 0|4 4|0 4", -1, -1,
		".......",
		".......",
		"...#...",
		"..##...",
		"..###..",
		".......",
		".......")
	// at the top
	shows(t, "0 0|4 0|2 4", -1, -1,
		".......",
		".####..",
		"..###..",
		"..##...",
		"...#...",
		".......",
		".......")
	// on and above places below 0
	shows(t, "-4 -4|0 -4|-2 0", -5, -5,
		".......",
		".####..",
		"..###..",
		"..##...",
		"...#...",
		".......",
		".......")
	// leaning over
	shows(t, "0 0|2 0|6 4", -1, -1,
		".........",
		".##......",
		"...#.....",
		"....#....",
		".........",
		".........")
	shows(t, "0 4|2 4|6 0", -1, -1,
		".........",
		".........",
		".........",
		"....#....",
		"...#.....",
		".........")
}

func TestPointsOfUprightSides(t *testing.T) {
	t.Parallel()
	// at the left
	shows(t, "0 0|4 2|0 4", -1, -1,
		".......",
		".......",
		".##....",
		".####..",
		".##....",
		".......",
		".......")
	// at the right
	shows(t, "4 0|0 2|4 4", -1, -1,
		".......",
		".......",
		"...##..",
		".####..",
		"...##..",
		".......",
		".......")
	shows(t, "0 0|1 0|0 9", -1, -1, "...", ".#.", ".#.", ".#.", ".#.", ".#.", ".#.", ".#.", ".#.", ".#.", "...")
	shows(t, "1 0|1 9|0 9", -1, -1, "...", "...", "...", "...", "...", "...", "...", "...", "...", "...", "...", "...")
	shows(t, "1 0|0 0|1 9", -1, -1, "...", ".#.", "...", "...", "...", "...", "...", "...", "...", "...", "...", "...")
}

// No side is level or upright.
func TestPointsOfSlantedSides(t *testing.T) {
	t.Parallel()
	shows(t, "1 0|4 3|0 4", -1, -1,
		".......",
		".......",
		"..#....",
		"..##...",
		"..###..",
		".......",
		".......")
	shows(t, "3 0|0 3|4 4", -1, -1,
		".......",
		".......",
		"...##..",
		"..###..",
		".####..",
		".......",
		".......")
}

// Without an area nothing is covered, not even a corner.
func TestNothingIsCovered(t *testing.T) {
	t.Parallel()
	for _, text := range []string{"8 8|8 8|8 8", "0 0|0 0|9 9", "0 0|4 4|9 9", "0 9|4 5|9 0", "0 3|4 3|9 3", "3 0|3 9|3 4", "0 0|9 0|5 0", "-9 -6|0 0|3 2", "0 0|2 1|4 2"} {
		shows(t, text, -2, -2, slices.Repeat([]string{"............."}, 13)...)
		for _, x := range turnsOf(triOf(text)) {
			for _, c := range cornersOf(x) {
				if impl.CoversPoint(x, c.X, c.Y) {
					t.Errorf("%v covers its corner", x)
				}
			}
			if got, ok := impl.CoverOf(x, 3, 3); len(got) > 0 || !ok {
				t.Errorf("CoverOf(%v) = %v, %v", x, got, ok)
			}
			if got, ok := impl.DepthAt(x, 3, 3); got != 0 || ok {
				t.Errorf("DepthAt(%v) = %d, %v", x, got, ok)
			}
		}
	}
}

// The last places that there are, and those beyond.
func TestFarthestPoints(t *testing.T) {
	t.Parallel()
	upper, lower := triOf("-4096 -4096|4096 -4096|-4096 4096"), triOf("4096 4096|-4096 4096|4096 -4096")
	for _, x := range []struct {
		x, y         int
		upper, lower bool
	}{
		{-4096, -4096, true, false}, {4095, -4096, true, false}, {4096, -4096, false, false}, {-4096, 4095, true, false},
		{-4096, 4096, false, false}, {4096, 4096, false, false}, {0, 0, false, true}, {-1, 0, true, false}, {0, -1, true, false},
		{4095, -4095, false, true}, {-4095, 4095, false, true}, {4095, 4095, false, true}, {4095, 4096, false, false}, {4096, 4095, false, false},
		{-4097, -4096, false, false}, {-4096, -4097, false, false}, {4097, -4096, false, false}, {4096, 4097, false, false}, {-4097, 4097, false, false}, {4097, 4097, false, false},
	} {
		for at, turned := range append(turnsOf(upper), turnsOf(lower)...) {
			want := at < 6 && x.upper || at >= 6 && x.lower
			if got := impl.CoversPoint(turned, x.x, x.y); got != want {
				t.Errorf("CoversPoint(%v, %d, %d) = %v", turned, x.x, x.y, got)
			}
			good := wantPlace(x.x, x.y)
			if _, ok := impl.DepthAt(turned, x.x, x.y); ok != good {
				t.Errorf("DepthAt(%v, %d, %d): %v", turned, x.x, x.y, ok)
			}
		}
	}
}

// Beyond the last places nothing is covered and nothing is deep, also where the
// products would wrap round to those of a point within.
func TestPointsTooFar(t *testing.T) {
	t.Parallel()
	x := triOf("0 0 9|64 0 9|0 64 9")
	for _, far := range append(slices.Clone(noCoordinates), 16+1<<58, 16+1<<59, 16+1<<60, 16+1<<61, 16-1<<61, 16+1<<62, 16-1<<62, math.MinInt+16) {
		for _, turned := range turnsOf(x) {
			for _, at := range [][2]int{{far, 16}, {16, far}, {far, far}} {
				if impl.CoversPoint(turned, at[0], at[1]) {
					t.Errorf("%v covers %v", turned, at)
				}
				if got, ok := impl.DepthAt(turned, at[0], at[1]); got != 0 || ok {
					t.Errorf("DepthAt(%v, %v) = %d, %v", turned, at, got, ok)
				}
			}
		}
	}
}

// covers: the pixels that a tri covers, by each order of corners.
func covers(t *testing.T, text string, wide, high int, numbers string) {
	t.Helper()
	for _, x := range turnsOf(triOf(text)) {
		if got, ok := impl.CoverOf(x, wide, high); !slices.Equal(got, numbersOf(numbers)) || !ok {
			t.Errorf("CoverOf(%v, %d, %d) = %v, %v, want %s", x, wide, high, got, ok, numbers)
		}
		heldCover(t, x, wide, high)
	}
}

func TestCoveredPixels(t *testing.T) {
	t.Parallel()
	// the points on the side that slants are covered where it is a first one
	covers(t, "0 0|64 0|64 64", 4, 4, "0 1 2 3 5 6 7 10 11 15")
	covers(t, "0 0|64 64|0 64", 4, 4, "4 8 9 12 13 14")
	covers(t, "0 0|64 0|0 64", 4, 4, "0 1 2 4 5 8")
	covers(t, "64 0|64 64|0 64", 4, 4, "3 6 7 9 10 11 12 13 14 15")
	covers(t, "0 0|64 0|0 64", 3, 2, "0 1 2 3 4")
	covers(t, "0 0|64 0|0 64", 2, 3, "0 1 2 3 4")
	covers(t, "0 0|64 0|0 64", 1, 1, "0")
	covers(t, "0 0|64 0|0 64", 1, 24, "0 1 2")
	covers(t, "0 0|64 0|0 64", 24, 1, "0 1 2")
	covers(t, "0 0|64 0|0 64", 24, 3, "0 1 2 24 25 48")
	// from point to point: the upper side and the left one
	covers(t, "8 8|56 8|8 56", 4, 4, "0 1 2 4 5 8")
	covers(t, "56 56|8 56|56 8", 4, 4, "6 9 10")
	covers(t, "8 8|56 8|56 56", 4, 4, "0 1 2 5 6 10")
	covers(t, "8 8|24 8|8 24", 4, 4, "0")
	covers(t, "8 8|9 8|8 9", 4, 4, "0")
	covers(t, "8 8|7 8|8 7", 4, 4, "")
	covers(t, "56 56|57 56|56 57", 4, 4, "15")
	covers(t, "40 24|41 24|40 25", 4, 4, "6")
}

func TestCoversBeyondTheScreen(t *testing.T) {
	t.Parallel()
	all := "0 1 2 3 4 5"
	covers(t, "-4096 -4096|4096 -4096|0 4096", 3, 2, all)
	covers(t, "-4096 4096|4096 4096|0 -4096", 3, 2, all)
	covers(t, "-100 -100|400 -100|-100 400", 3, 2, all)
	// one side of the screen, and the next one
	for _, side := range []string{"16", "24"} {
		covers(t, "-4096 "+side+"|4096 "+side+"|24 -4096", 3, 2, "0 1 2")
		covers(t, "-4096 "+side+"|4096 "+side+"|24 4096", 3, 2, "3 4 5")
		covers(t, side+" -4096|"+side+" 4096|-4096 16", 3, 2, "0 3")
		covers(t, side+" -4096|"+side+" 4096|4096 16", 3, 2, "1 2 4 5")
	}
	// outside
	covers(t, "-4096 -4096|-1 -4096|-1 4096", 3, 2, "")
	covers(t, "-64 0|7 0|-64 64", 3, 2, "")
	covers(t, "48 0|4096 0|48 4096", 3, 2, "")
	covers(t, "0 32|48 32|0 4096", 3, 2, "")
	covers(t, "0 -9|48 -9|24 7", 3, 2, "")
	covers(t, "0 -9|48 -9|9 8", 3, 2, "")
	// without the points on their right and at their bottom, with those on their left
	covers(t, "-64 8|8 -64|8 80", 3, 2, "")
	covers(t, "56 8|8 -40|8 56", 3, 2, "0 1 2 3 4")
	covers(t, "40 -64|40 99|-64 8", 3, 2, "0 1 3 4")
}

func TestThinCovers(t *testing.T) {
	t.Parallel()
	covers(t, "0 0|16 0|16 7", 1, 1, "")
	covers(t, "0 7|16 7|16 8", 1, 1, "")
	covers(t, "0 8|16 8|16 9", 1, 1, "0")
	covers(t, "0 8|16 8|0 9", 1, 1, "0")
	covers(t, "0 7|384 7|0 8", 24, 1, "")
	covers(t, "0 8|384 8|0 9", 24, 1, "0 1 2 3 4 5 6 7 8 9 10 11 12 13 14 15 16 17 18 19 20 21 22 23")
	covers(t, "0 9|384 9|0 8", 24, 1, "")
	covers(t, "0 9|384 9|384 8", 24, 1, "")
	covers(t, "8 0|9 0|8 384", 1, 24, "0 1 2 3 4 5 6 7 8 9 10 11 12 13 14 15 16 17 18 19 20 21 22 23")
	covers(t, "8 0|7 0|8 384", 1, 24, "")
	covers(t, "8 0|9 384|8 384", 1, 24, "0 1 2 3 4 5 6 7 8 9 10 11 12 13 14 15 16 17 18 19 20 21 22 23")
	// along the points that slant down
	covers(t, "0 0|64 64|64 63", 4, 4, "0 5 10 15")
	covers(t, "0 0|64 64|63 64", 4, 4, "")
	covers(t, "0 0|64 64|65 64", 4, 4, "0 5 10 15")
	covers(t, "64 0|0 64|0 65", 4, 4, "3 6 9 12")
	covers(t, "64 0|0 64|0 63", 4, 4, "")
	// between the points
	covers(t, "9 9|23 9|23 23", 4, 4, "")
	covers(t, "9 0|23 0|9 384", 4, 24, "")
}

// Every point of each screen, by the largest tri and by what is not one.
func TestSidesOfScreens(t *testing.T) {
	t.Parallel()
	whole := triOf("-4096 -4096|4096 -4096|0 4096")
	for _, wide := range slices.Concat(upTo(27), noCoordinates, farInts) {
		for _, high := range slices.Concat(upTo(27), noCoordinates, farInts) {
			got, ok := impl.CoverOf(whole, wide, high)
			none, still := impl.CoverOf(triOf("3 3|4 4|5 5"), wide, high)
			if good := wide >= 1 && wide <= 24 && high >= 1 && high <= 24; ok != good || still != good || len(none) > 0 || good && !slices.Equal(got, upTo(wide*high)) || !good && len(got) > 0 {
				t.Errorf("CoverOf of %d by %d = %v, %v", wide, high, got, ok)
			}
		}
	}
}

// A cover is what CoversPoint says of each pixel's point, and rises.
func TestCoversPointByPoint(t *testing.T) {
	t.Parallel()
	c := newChance(315)
	for range 2000 {
		x, wide, high := c.someTri(), 1+c.Intn(24), 1+c.Intn(24)
		var want []int
		for py := range high {
			for px := range wide {
				if impl.CoversPoint(x, 16*px+8, 16*py+8) {
					want = append(want, py*wide+px)
				}
			}
		}
		if got, ok := impl.CoverOf(x, wide, high); !slices.Equal(got, want) || !ok {
			t.Errorf("CoverOf(%v, %d, %d) = %v, %v, want %v", x, wide, high, got, ok, want)
		}
	}
}

// deep: the depth at a point, by each order of corners.
func deep(t *testing.T, text string, x, y, want int) {
	t.Helper()
	for _, turned := range turnsOf(triOf(text)) {
		if got, ok := impl.DepthAt(turned, x, y); got != want || !ok {
			t.Errorf("DepthAt(%v, %d, %d) = %d, %v, want %d", turned, x, y, got, ok, want)
		}
		heldDepth(t, turned, x, y)
	}
}

func TestDepths(t *testing.T) {
	t.Parallel()
	slope := "0 0 0|64 0 64|0 64 0"
	for _, x := range []int{-4096, -65, -64, -1, 0, 1, 32, 63, 64, 65, 4096} {
		deep(t, slope, x, 0, x)
		deep(t, slope, x, -4096, x)
		deep(t, slope, x, 4096, x)
		deep(t, "0 0 0|0 64 64|64 0 0", 77, x, x)
		deep(t, "0 0 100|64 0 36|0 64 100", x, 5, 100-x)
		deep(t, "3 -5 9|64 0 9|0 64 9", x, -x, 9)
	}
	// down, also where it is below 0
	for x, want := range map[int]int{-4096: -2048, -4: -2, -3: -2, -2: -1, -1: -1, 0: 0, 1: 0, 2: 1, 3: 1, 4: 2, 4095: 2047, 4096: 2048} {
		deep(t, "0 0 0|64 0 32|0 64 0", x, 0, want)
		deep(t, "0 0 0|64 0 0|0 64 32", 64, x, want)
	}
	for x, want := range map[int]int{-6: -2, -5: -2, -4: -2, -3: -1, -2: -1, -1: -1, 0: 0, 1: 0, 2: 0, 3: 1, 4: 1, 5: 1, 6: 2} {
		deep(t, "0 0 0|3 0 1|0 1 0", x, 0, want)
	}
	for x, want := range map[int]int{-2: 101, -1: 100, 0: 100, 1: 99, 2: 99, 3: 98, 199: 0, 200: 0, 201: -1, 202: -1, 203: -2} {
		deep(t, "0 0 100|64 0 68|0 64 100", x, 0, want)
	}
}

// Where the plane lies below 0 or beyond the deepest.
func TestDepthsOfSteepPlanes(t *testing.T) {
	t.Parallel()
	steep := "0 0 65535|1 0 0|0 1 0"
	deep(t, steep, 0, 0, 65535)
	deep(t, steep, 1, 0, 0)
	deep(t, steep, 0, 1, 0)
	deep(t, steep, 1, 1, -65535)
	deep(t, steep, 4096, 4096, -536797185)
	deep(t, steep, -4096, -4096, 536928255)
	deep(t, "0 0 0|1 0 65535|0 1 0", 4096, 0, 268431360)
	deep(t, "0 0 0|1 0 65535|0 1 0", -4096, 0, -268431360)
	deep(t, "0 0 0|1 0 65535|0 1 65535", -4096, -4096, -536862720)
	deep(t, "0 0 0|1 0 65535|0 1 65535", 4096, 4096, 536862720)
	// the longest sides around the least area
	deep(t, "-4096 -4096 0|4096 4095 0|4095 4094 65535", 4096, -4096, 4397442539520)
	deep(t, "-4096 -4096 0|4096 4095 0|4095 4094 65535", -4096, 4096, -4397979402240)
	deep(t, "-4096 -4096 65535|4096 4095 65535|4095 4094 0", 4096, -4096, 65535-4397442539520)
}

// At each corner that corner's Z, whatever the others are.
func TestDepthsAtCorners(t *testing.T) {
	t.Parallel()
	c := newChance(316)
	for n := range 20000 {
		x := c.someTri()
		if n%2 == 0 {
			x = c.triBy(c.smallCoordinate)
		}
		for _, corner := range cornersOf(x) {
			got, ok := impl.DepthAt(x, corner.X, corner.Y)
			if good := impl.AreaOf(x) != 0; ok != good || good && got != corner.Z {
				t.Errorf("DepthAt(%v, %d, %d) = %d, %v", x, corner.X, corner.Y, got, ok)
			}
		}
	}
}

// What is covered is no deeper than the deepest corner, and no less deep than the one
// that is least so: there is nothing to cut.
func TestDepthsOfCoveredPoints(t *testing.T) {
	t.Parallel()
	c := newChance(317)
	covered := 0
	for range 40000 {
		x, atX, atY := c.triBy(c.smallCoordinate), c.smallCoordinate(), c.smallCoordinate()
		if impl.CoversPoint(x, atX, atY) {
			covered++
			got, _ := impl.DepthAt(x, atX, atY)
			if got < min(x.A.Z, x.B.Z, x.C.Z) || got > max(x.A.Z, x.B.Z, x.C.Z) {
				t.Errorf("DepthAt(%v, %d, %d) = %d", x, atX, atY, got)
			}
		}
	}
	if covered < 2000 {
		t.Errorf("%d points are covered", covered)
	}
}
