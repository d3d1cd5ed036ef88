package tests

import (
	"math"
	"slices"

	"loop.example/g00053/impl"
)

// Triangles another way: a tri is three corners, whichever way it turns. A point is
// moved to the right by a hair, and down by a hair of a hair, so that it lies on no
// side; it is covered where, of the sides that its row crosses, just one is crossed
// behind it. The area is what lies under the sides, one by one; the plane is told by
// what stands upright on it, in the machine's floats (all of them are exact, or far
// enough from the next whole number); a screen is painted pixel by pixel.

func cornersOf(t impl.Tri) []impl.Corner { return []impl.Corner{t.A, t.B, t.C} }

func wantPlace(x, y int) bool {
	return slices.Min([]int{x, y}) > -4097 && slices.Max([]int{x, y}) < 4097
}

func wantTri(t impl.Tri) bool {
	for _, c := range cornersOf(t) {
		if !wantPlace(c.X, c.Y) || c.Z < 0 || c.Z >= 65536 {
			return false
		}
	}
	return wantColor(t.Color)
}

func wantArea(t impl.Tri) int {
	if !wantTri(t) {
		return 0
	}
	area := 0
	corners := cornersOf(t)
	for at, p := range corners {
		q := corners[(at+1)%3]
		area += p.X*q.Y - q.X*p.Y
	}
	return area
}

// crossedBehind: how many sides the row of a point crosses behind it.
func crossedBehind(t impl.Tri, x, y int) int {
	count := 0
	corners := cornersOf(t)
	for at, low := range corners {
		high := corners[(at+1)%3]
		if high.Y < low.Y {
			low, high = high, low
		}
		// the row lies below y by a hair
		if low.Y <= y && high.Y > y && (high.X-low.X)*(y-low.Y) > (x-low.X)*(high.Y-low.Y) {
			count++
		}
	}
	return count
}

func wantCovers(t impl.Tri, x, y int) bool {
	return wantTri(t) && wantPlace(x, y) && crossedBehind(t, x, y) == 1
}

func wantSides(wide, high int) bool {
	return slices.Contains(upTo(25)[1:], wide) && slices.Contains(upTo(25)[1:], high)
}

func wantCover(t impl.Tri, wide, high int) ([]int, bool) {
	if !wantTri(t) || !wantSides(wide, high) {
		return nil, false
	}
	var numbers []int
	for number := range wide * high {
		if wantCovers(t, 16*(number%wide)+8, 16*(number/wide)+8) {
			numbers = append(numbers, number)
		}
	}
	return numbers, true
}

func wantDepth(t impl.Tri, x, y int) (int, bool) {
	if !wantTri(t) || !wantPlace(x, y) {
		return 0, false
	}
	to := func(c impl.Corner) [3]float64 {
		return [3]float64{float64(c.X - t.A.X), float64(c.Y - t.A.Y), float64(c.Z - t.A.Z)}
	}
	u, v := to(t.B), to(t.C)
	upright := [3]float64{u[1]*v[2] - u[2]*v[1], u[2]*v[0] - u[0]*v[2], u[0]*v[1] - u[1]*v[0]}
	if upright[2] == 0 {
		return 0, false
	}
	rises := -(upright[0]*float64(x-t.A.X) + upright[1]*float64(y-t.A.Y))
	return t.A.Z + int(math.Floor(rises/upright[2])), true
}

// wantBlend: nothing lies just between two, since 255 is odd.
func wantBlend(from, to impl.Color) (impl.Color, bool) {
	if !wantColor(from) || !wantColor(to) {
		return impl.Color{}, false
	}
	part := float64(from.A) / 255
	parts := make([]int, 4)
	for at, was := range fourOf(to) {
		parts[at] = int(math.Round(between(float64(was), float64(fourOf(from)[at]), part)))
	}
	parts[3] = from.A + int(math.Round(float64(to.A)*(1-part)))
	return colorOf(parts...), true
}

func wantNewScreen(wide, high int, color impl.Color) (impl.Screen, bool) {
	s := impl.Screen{Wide: wide, High: high}
	if !wantSides(wide, high) || !wantColor(color) {
		return impl.Screen{}, false
	}
	for len(s.Colors) < wide*high {
		s.Colors = append(s.Colors, color)
		s.Depths = append(s.Depths, 65536)
	}
	return s, true
}

func wantScreen(s impl.Screen) bool {
	if !wantSides(s.Wide, s.High) || len(s.Colors) != s.Wide*s.High || len(s.Depths) != s.Wide*s.High {
		return false
	}
	for at, c := range s.Colors {
		if !wantColor(c) || s.Depths[at] < 0 || s.Depths[at] > 65536 {
			return false
		}
	}
	return true
}

func wantPaint(s impl.Screen, l []impl.Tri) (impl.Screen, bool) {
	wrong := func(t impl.Tri) bool { return !wantTri(t) }
	if !wantScreen(s) || len(l) > 12 || slices.ContainsFunc(l, wrong) {
		return impl.Screen{}, false
	}
	painted := impl.Screen{Wide: s.Wide, High: s.High}
	for at, color := range s.Colors {
		depth := s.Depths[at]
		x, y := 16*(at%s.Wide)+8, 16*(at/s.Wide)+8
		for _, t := range l {
			if !wantCovers(t, x, y) {
				continue
			}
			if deep, _ := wantDepth(t, x, y); deep <= depth {
				color, _ = wantBlend(t.Color, color)
				depth = deep
			}
		}
		painted.Colors = append(painted.Colors, color)
		painted.Depths = append(painted.Depths, depth)
	}
	return painted, true
}
