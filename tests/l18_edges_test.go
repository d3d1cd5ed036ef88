package tests

import (
	"math"
	"slices"
	"strconv"
	"strings"
	"testing"

	"loop.example/g00053/impl"
)

// The edges that chapter 18 names of blocks, rays and what is hit one by one, with what
// is answered written out.

// cubeOf: its Lo and its Hi, with `|` between.
func cubeOf(text string) impl.Block {
	sides := setsOf(text)
	return impl.Block{Lo: sides[0], Hi: sides[1]}
}

// cubesOf: with `;` between each two.
func cubesOf(text string) []impl.Block {
	var l []impl.Block
	for _, one := range strings.Split(text, ";") {
		if strings.TrimSpace(one) != "" {
			l = append(l, cubeOf(one))
		}
	}
	return l
}

// rayOf: where it is from, and its way, with `|` between.
func rayOf(text string) impl.Ray {
	parts := setsOf(text)
	return impl.Ray{From: parts[0], Way: parts[1]}
}

func toldFraction(num, den int) string { return strconv.Itoa(num) + "/" + strconv.Itoa(den) }

func toldHits(l []impl.Hit) string {
	var told []string
	for _, h := range l {
		told = append(told, strconv.Itoa(h.Block)+" at "+toldFraction(h.Num, h.Den))
	}
	return strings.Join(told, ", ")
}

// Numbers that are no places in the cube.
var noCubePlaces = []int{math.MinInt, math.MinInt + 1, -1 << 62, -1<<32 + 1, -1 << 32, -65536, -2000, -1002, -1001, 1001, 1002, 2000, 65536, 1 << 32, 1<<32 + 1, 1 << 62, math.MaxInt - 1, math.MaxInt}

// Lists that are no three numbers in the cube.
func noCoordinateLists() [][]int {
	l := [][]int{nil, {}, {0}, {1}, {0, 0}, {1, 2}, {1, 2, 3, 4}, {0, 0, 0, 0}, {1, 2, 3, 4, 5, 6}, make([]int, 1<<16)}
	for _, wrong := range noCubePlaces {
		l = append(l, []int{wrong, 0, 1}, []int{0, wrong, 1}, []int{0, 1, wrong}, []int{wrong, wrong, wrong})
	}
	return l
}

func TestConstantsOfRays(t *testing.T) {
	t.Parallel()
	if got := []int{impl.MaxBlocks, impl.MaxCube}; !slices.Equal(got, []int{24, 1000}) {
		t.Errorf("constants %v", got)
	}
}

// refusedCube: nothing is answered of a block that is not good, nor of good ones with
// it among them.
func refusedCube(t *testing.T, b impl.Block) {
	t.Helper()
	r := rayOf("0 0 0|1 0 0")
	if num, den, ok := impl.HitBlock(b, r); impl.GoodBlock(b) || num != 0 || den != 0 || ok {
		t.Errorf("%v is taken: %d, %d, %v", b, num, den, ok)
	}
	good := cubesOf("0 0 0|1 1 1; 5 5 5|6 6 6; -1 -1 -1|0 0 0")
	for at := range 4 {
		refusedCubes(t, slices.Insert(slices.Clone(good), at, b))
	}
	refusedCubes(t, []impl.Block{b})
}

// refusedCubes: nothing is answered of a list.
func refusedCubes(t *testing.T, l []impl.Block) {
	t.Helper()
	r := rayOf("0 0 0|1 0 0")
	first, isFirst := impl.FirstHit(l, r)
	hits, areHits := impl.AllHits(l, r)
	if isFirst || areHits || first != (impl.Hit{}) || len(hits) > 0 {
		t.Errorf("%d blocks are taken: first %v, all %v", len(l), first, hits)
	}
	twigs, isTree := impl.TreeOf(l)
	if isTree || len(twigs) > 0 {
		t.Errorf("%d blocks have a tree: %v", len(l), twigs)
	}
	for _, twigs := range [][]impl.Twig{nil, {}, {{Box: cubeOf("0 0 0|1 1 1"), Left: -1, Right: -1}}} {
		hit, asked, ok := impl.TreeHit(l, twigs, r)
		if impl.GoodTwigs(l, twigs) || ok || asked != 0 || hit != (impl.Hit{}) {
			t.Errorf("twigs of %d blocks are taken: %v, %d", len(l), hit, asked)
		}
	}
}

func TestGoodBlocks(t *testing.T) {
	t.Parallel()
	for _, text := range []string{"0 0 0|0 0 0", "-1000 -1000 -1000|1000 1000 1000", "-1000 -1000 -1000|-1000 -1000 -1000", "1000 1000 1000|1000 1000 1000", "1 2 3|1 2 3", "-3 -2 -1|1 2 3", "999 -999 0|999 -998 1"} {
		if !impl.GoodBlock(cubeOf(text)) || !heldCube(t, cubeOf(text)) {
			t.Errorf("%s is not good", text)
		}
	}
	for axis := range 3 {
		for lo := -1001; lo <= 1001; lo++ {
			b := cubeOf("-5 -5 -5|5 5 5")
			b.Lo[axis] = lo
			if got := impl.GoodBlock(b); got != (lo >= -1000 && lo <= 5) {
				t.Errorf("GoodBlock(%v) = %v", b, got)
			}
			b = cubeOf("-5 -5 -5|5 5 5")
			b.Hi[axis] = lo
			if got := impl.GoodBlock(b); got != (lo >= -5 && lo <= 1000) {
				t.Errorf("GoodBlock(%v) = %v", b, got)
			}
		}
		for _, n := range []int{-1000, -999, -1, 0, 1, 999, 1000} {
			b := cubeOf("-1000 -1000 -1000|1000 1000 1000")
			b.Lo[axis], b.Hi[axis] = n, n
			if !impl.GoodBlock(b) {
				t.Errorf("%v is not good", b)
			}
			b.Hi[axis] = n - 1
			refusedCube(t, b)
			b.Lo[axis], b.Hi[axis] = n+1, n
			refusedCube(t, b)
		}
	}
}

func TestBlocksThatAreNone(t *testing.T) {
	t.Parallel()
	refusedCube(t, impl.Block{})
	for _, wrong := range noCoordinateLists() {
		refusedCube(t, impl.Block{Lo: wrong, Hi: []int{1000, 1000, 1000}})
		refusedCube(t, impl.Block{Lo: []int{-1000, -1000, -1000}, Hi: wrong})
		refusedCube(t, impl.Block{Lo: wrong, Hi: wrong})
	}
}

// refusedRay: nothing is hit by a ray that is not good.
func refusedRay(t *testing.T, r impl.Ray) {
	t.Helper()
	l := cubesOf("-1000 -1000 -1000|1000 1000 1000; 0 0 0|1 1 1")
	twigs, _ := impl.TreeOf(l)
	num, den, isHit := impl.HitBlock(l[0], r)
	first, isFirst := impl.FirstHit(l, r)
	none, isNone := impl.FirstHit(nil, r)
	hits, areHits := impl.AllHits(l, r)
	no, areNo := impl.AllHits(nil, r)
	hit, asked, ok := impl.TreeHit(l, twigs, r)
	if impl.GoodRay(r) || isHit || isFirst || isNone || areHits || areNo || ok {
		t.Errorf("%v is taken", r)
	}
	if num != 0 || den != 0 || asked != 0 || len(hits) > 0 || len(no) > 0 {
		t.Errorf("%v hits: %d, %d, %d, %v, %v", r, num, den, asked, hits, no)
	}
	if zero := (impl.Hit{}); first != zero || none != zero || hit != zero {
		t.Errorf("%v hits %v, %v, %v", r, first, none, hit)
	}
}

func TestGoodRays(t *testing.T) {
	t.Parallel()
	for _, text := range []string{"0 0 0|1 0 0", "0 0 0|0 1 0", "0 0 0|0 0 1", "0 0 0|-1 0 0", "0 0 0|0 -1 0", "0 0 0|0 0 -1", "-1000 -1000 -1000|1000 1000 1000", "1000 1000 1000|-1000 -1000 -1000", "7 8 9|0 -3 2", "0 0 0|1 -1 0"} {
		if !impl.GoodRay(rayOf(text)) || !heldRay(t, rayOf(text)) {
			t.Errorf("%s is not good", text)
		}
	}
	for axis := range 3 {
		for n := -1001; n <= 1001; n++ {
			good := n >= -1000 && n <= 1000
			r := rayOf("0 0 0|1 2 3")
			r.From[axis] = n
			if got := impl.GoodRay(r); got != good {
				t.Errorf("GoodRay(%v) = %v", r, got)
			}
			r = rayOf("0 0 0|0 0 0")
			r.Way[axis] = n
			if got := impl.GoodRay(r); got != (good && n != 0) {
				t.Errorf("GoodRay(%v) = %v", r, got)
			}
		}
	}
	for _, from := range []string{"0 0 0", "1 2 3", "-1000 0 1000"} {
		refusedRay(t, rayOf(from+"|0 0 0"))
	}
	refusedRay(t, impl.Ray{})
	for _, wrong := range noCoordinateLists() {
		refusedRay(t, impl.Ray{From: wrong, Way: []int{1, 0, 0}})
		refusedRay(t, impl.Ray{From: []int{0, 0, 0}, Way: wrong})
		refusedRay(t, impl.Ray{From: wrong, Way: wrong})
	}
}

// axisOrders: which axis comes to stand where.
var axisOrders = [][3]int{{0, 1, 2}, {0, 2, 1}, {1, 0, 2}, {1, 2, 0}, {2, 0, 1}, {2, 1, 0}}

// moved: numbers along other axes, and some of them turned to the other side (bit by
// bit).
func moved(l []int, order [3]int, sides int) []int {
	there := make([]int, 3)
	for axis, n := range l {
		if sides>>axis&1 == 1 {
			n = -n
		}
		there[order[axis]] = n
	}
	return there
}

func movedCube(b impl.Block, order [3]int, sides int) impl.Block {
	one, other := moved(b.Lo, order, sides), moved(b.Hi, order, sides)
	for axis := range one {
		one[axis], other[axis] = min(one[axis], other[axis]), max(one[axis], other[axis])
	}
	return impl.Block{Lo: one, Hi: other}
}

// eachWay: a block and a ray, seen along all axes and from all sides: what is met is
// the same.
func eachWay(b impl.Block, r impl.Ray, look func(impl.Block, impl.Ray)) {
	for _, order := range axisOrders {
		for sides := range 8 {
			look(movedCube(b, order, sides), impl.Ray{From: moved(r.From, order, sides), Way: moved(r.Way, order, sides)})
		}
	}
}

func meets(t *testing.T, block, ray, want string) {
	t.Helper()
	eachWay(cubeOf(block), rayOf(ray), func(b impl.Block, r impl.Ray) {
		t.Helper()
		num, den, ok := impl.HitBlock(b, r)
		if got := toldFraction(num, den); got != want || !ok {
			t.Errorf("HitBlock(%v, %v) = %s, %v, want %s", b, r, got, ok, want)
		}
		heldHit(t, b, r)
	})
}

func misses(t *testing.T, block string, rays ...string) {
	t.Helper()
	for _, ray := range rays {
		eachWay(cubeOf(block), rayOf(ray), func(b impl.Block, r impl.Ray) {
			t.Helper()
			if num, den, ok := impl.HitBlock(b, r); num != 0 || den != 0 || ok {
				t.Errorf("HitBlock(%v, %v) = %d, %d, %v", b, r, num, den, ok)
			}
			heldHit(t, b, r)
		})
	}
}

// From within, from a side, an edge and a corner it is met at once, wherever the way
// goes.
func TestMetAtOnce(t *testing.T) {
	t.Parallel()
	for _, from := range []string{"2 2 2", "1 2 3", "4 2 2", "0 2 2", "4 4 2", "0 4 2", "4 4 4", "0 0 0", "0 0 4", "4 0 4"} {
		for _, way := range []string{"1 0 0", "-1 0 0", "0 5 0", "0 -5 0", "0 0 1000", "0 0 -1000", "1 1 0", "-1 0 1", "3 -2 7", "-2 -4 -6", "6 4 2", "1000 1000 1000"} {
			meets(t, "0 0 0|4 4 4", from+"|"+way, "0/1")
		}
	}
	meets(t, "-1000 -1000 -1000|1000 1000 1000", "-1000 -1000 -1000|-1 -1 -1", "0/1")
	meets(t, "3 3 3|3 3 3", "3 3 3|7 7 7", "0/1")
	meets(t, "3 3 3|3 3 3", "3 3 3|-7 0 2", "0/1")
}

func TestMetAlongOneAxis(t *testing.T) {
	t.Parallel()
	meets(t, "2 0 0|4 1 1", "0 0 0|1 0 0", "2/1")
	meets(t, "2 0 0|4 1 1", "-3 1 0|1 0 0", "5/1")
	meets(t, "2 0 0|4 1 1", "0 0 0|2 0 0", "1/1")
	meets(t, "2 0 0|4 1 1", "0 0 0|3 0 0", "2/3")
	meets(t, "2 0 0|4 1 1", "0 0 0|4 0 0", "1/2")
	meets(t, "2 0 0|4 1 1", "0 0 0|1000 0 0", "1/500")
	meets(t, "2 0 0|4 1 1", "9 0 0|-2 0 0", "5/2")
	meets(t, "2 0 0|4 1 1", "10 0 0|-6 0 0", "1/1")
	meets(t, "2 0 0|4 1 1", "10 0 0|-9 0 0", "2/3")
	meets(t, "2 0 0|4 1 1", "5 0 0|-6 0 0", "1/6")
	meets(t, "1000 0 0|1000 0 0", "-1000 0 0|1 0 0", "2000/1")
	meets(t, "1000 0 0|1000 0 0", "-1000 0 0|999 0 0", "2000/999")
	meets(t, "1000 0 0|1000 0 0", "-1000 0 0|1000 0 0", "2/1")
	meets(t, "-999 0 0|1000 0 0", "-1000 0 0|1000 0 0", "1/1000")
	// where the way does not go it is within, or on a side
	meets(t, "2 -5 -5|4 5 5", "0 0 0|1 0 0", "2/1")
	meets(t, "2 -5 -5|4 5 5", "0 5 0|1 0 0", "2/1")
	meets(t, "2 -5 -5|4 5 5", "0 -5 0|1 0 0", "2/1")
	meets(t, "2 -5 -5|4 5 5", "0 5 -5|1 0 0", "2/1")
	// or outside
	misses(t, "2 -5 -5|4 5 5", "0 6 0|1 0 0", "0 -6 0|1 0 0", "0 0 6|1 0 0", "0 0 -6|1 0 0", "0 6 6|1 0 0", "0 1000 0|1000 0 0", "3 6 0|1 0 0", "3 0 -6|-1 0 0")
	// or the way goes off
	misses(t, "2 -5 -5|4 5 5", "0 0 0|-1 0 0", "1 0 0|-1 0 0", "1 0 0|-1000 0 0", "5 0 0|1 0 0", "9 0 0|1 0 0", "0 0 0|0 1 0", "1 0 0|0 -1 0", "5 0 0|0 0 1")
}

func TestMetAlongTwoAxes(t *testing.T) {
	t.Parallel()
	meets(t, "2 2 0|4 4 4", "0 0 0|1 1 0", "2/1")
	meets(t, "2 3 0|4 4 4", "0 0 0|1 1 0", "3/1")
	meets(t, "2 2 0|4 4 4", "0 0 4|1 1 0", "2/1")
	meets(t, "2 2 0|4 4 4", "0 1 2|3 1 0", "1/1")
	meets(t, "2 2 0|4 4 4", "0 3 2|3 1 0", "2/3")
	meets(t, "2 2 0|4 4 4", "0 3 2|4 -1 0", "1/2")
	meets(t, "2 2 0|4 4 4", "6 7 2|-4 -6 0", "1/2")
	meets(t, "2 2 0|4 4 4", "6 7 2|-2 -3 0", "1/1")
	meets(t, "2 2 0|4 4 4", "6 8 2|-2 -3 0", "4/3")
	meets(t, "2 2 0|4 4 4", "0 -1 2|1 1 0", "3/1")
	// past it, off from it, or beside it where the way does not go
	misses(t, "2 2 0|4 4 4", "0 3 2|1 1 0", "0 5 2|1 1 0", "0 -3 2|1 1 0", "3 0 2|1 1 0", "0 0 2|-1 -1 0", "0 0 2|1 -1 0", "6 6 2|1 1 0", "0 0 5|1 1 0", "0 0 -1|1 1 0", "3 3 5|1 1 0")
}

func TestMetAlongThreeAxes(t *testing.T) {
	t.Parallel()
	meets(t, "2 2 2|4 4 4", "0 0 0|1 1 1", "2/1")
	meets(t, "2 2 2|4 4 4", "0 1 2|2 1 1", "1/1")
	meets(t, "2 2 2|4 4 4", "0 0 0|3 2 3", "1/1")
	meets(t, "2 2 2|4 4 4", "0 0 0|4 3 5", "2/3")
	meets(t, "2 2 2|4 4 4", "9 -1 6|-7 4 -3", "3/4")
	meets(t, "2 2 2|4 4 4", "0 0 0|6 6 6", "1/3")
	meets(t, "-1000 -1000 999|1000 1000 1000", "-1000 -1000 -1000|998 997 999", "1999/999")
	misses(t, "2 2 2|4 4 4", "0 0 0|1 2 3", "0 3 2|1 1 1", "0 2 3|1 1 1", "0 2 -1|1 1 1", "0 0 0|-1 -1 -1", "0 0 0|1 1 -1", "5 5 5|1 1 1", "5 5 5|-1 -1 1", "1 2 3|-1 2 3")
}

// Sides, edges and corners that are touched alone.
func TestTouchedAlone(t *testing.T) {
	t.Parallel()
	// along a side, and along an edge
	meets(t, "2 2 2|4 4 4", "0 2 3|1 0 0", "2/1")
	meets(t, "2 2 2|4 4 4", "0 4 3|3 0 0", "2/3")
	meets(t, "2 2 2|4 4 4", "0 2 2|1 0 0", "2/1")
	meets(t, "2 2 2|4 4 4", "9 4 2|-2 0 0", "5/2")
	meets(t, "2 2 2|4 4 4", "0 1 4|2 1 0", "1/1")
	// an edge at one place
	meets(t, "2 2 2|4 4 4", "0 2 3|1 1 0", "2/1")
	meets(t, "2 2 2|4 4 4", "2 0 3|1 1 0", "2/1")
	meets(t, "2 2 2|4 4 4", "0 2 1|1 1 1", "2/1")
	meets(t, "2 2 2|4 4 4", "0 1 3|4 6 0", "1/2")
	meets(t, "2 2 2|4 4 4", "0 1 1|4 6 3", "1/2")
	// a corner
	meets(t, "2 2 2|4 4 4", "0 2 2|1 1 1", "2/1")
	meets(t, "2 2 2|4 4 4", "2 0 0|1 1 1", "2/1")
	meets(t, "2 2 2|4 4 4", "0 2 4|1 1 0", "2/1")
	meets(t, "2 2 2|4 4 4", "1 2 3|3 6 3", "1/3")
	// and by a hair beside
	misses(t, "2 2 2|4 4 4", "0 1 1|4 7 3", "0 1 3|4 7 0", "0 2 2|1 1 2", "1 2 3|3 7 3", "1 2 3|3 6 4")
	meets(t, "0 0 0|1000 1000 1000", "-999 1 0|999 999 1", "1/1")
	misses(t, "0 0 0|1000 1000 1000", "-1000 1 0|999 999 1", "-999 2 0|999 999 1", "-999 1 0|998 999 1")
}

func TestBlocksWithoutAWidth(t *testing.T) {
	t.Parallel()
	// along one axis
	meets(t, "2 2 2|2 4 4", "0 3 3|1 0 0", "2/1")
	meets(t, "2 2 2|2 4 4", "0 3 3|3 0 0", "2/3")
	meets(t, "2 2 2|2 4 4", "2 0 3|0 1 0", "2/1")
	meets(t, "2 2 2|2 4 4", "2 0 1|0 3 2", "2/3")
	meets(t, "2 2 2|2 4 4", "0 0 3|1 1 0", "2/1")
	meets(t, "2 2 2|2 4 4", "0 1 3|1 1 0", "2/1")
	meets(t, "2 2 2|2 4 4", "5 5 1|-2 -1 1", "3/2")
	meets(t, "2 2 2|2 4 4", "2 3 3|1 0 0", "0/1")
	misses(t, "2 2 2|2 4 4", "0 3 3|1 1 0", "1 0 3|0 1 0", "3 3 3|0 1 1", "3 3 3|1 0 0", "1 3 3|-1 0 0", "2 5 3|1 0 0", "5 5 0|-3 -1 1")
	// along two
	meets(t, "2 2 0|2 2 9", "0 0 5|1 1 0", "2/1")
	meets(t, "2 2 0|2 2 9", "0 0 0|1 1 1", "2/1")
	meets(t, "2 2 0|2 2 9", "0 1 5|2 1 0", "1/1")
	meets(t, "2 2 0|2 2 9", "2 2 -3|0 0 2", "3/2")
	meets(t, "2 2 0|2 2 9", "2 2 12|0 0 -2", "3/2")
	meets(t, "2 2 0|2 2 9", "0 2 -1|6 0 3", "1/3")
	misses(t, "2 2 0|2 2 9", "0 0 5|1 2 0", "0 0 5|2 1 0", "2 3 -3|0 0 2", "0 2 -2|6 0 3", "2 2 10|0 0 1", "0 0 10|1 1 0")
	// along three
	meets(t, "2 4 6|2 4 6", "0 0 0|1 2 3", "2/1")
	meets(t, "2 4 6|2 4 6", "0 0 0|2 4 6", "1/1")
	meets(t, "2 4 6|2 4 6", "0 0 0|3 6 9", "2/3")
	meets(t, "2 4 6|2 4 6", "5 5 5|-3 -1 1", "1/1")
	meets(t, "2 4 6|2 4 6", "2 4 0|0 0 4", "3/2")
	meets(t, "2 4 6|2 4 6", "2 1 0|0 6 12", "1/2")
	meets(t, "2 4 6|2 4 6", "2 4 6|1 0 0", "0/1")
	misses(t, "2 4 6|2 4 6", "0 0 0|1 2 4", "0 0 0|1 3 3", "0 0 0|0 2 3", "0 0 0|-1 -2 -3", "2 4 0|0 1 4", "2 4 5|1 0 0", "3 6 9|1 2 3")
}

// The farthest places and the longest ways.
func TestMetFarOff(t *testing.T) {
	t.Parallel()
	far := "1000 1000 1000|1000 1000 1000"
	meets(t, far, "-1000 -1000 -1000|1 1 1", "2000/1")
	meets(t, far, "-1000 -1000 -1000|1000 1000 1000", "2/1")
	meets(t, far, "-1000 -1000 -1000|999 999 999", "2000/999")
	meets(t, far, "999 999 999|1000 1000 1000", "1/1000")
	meets(t, far, "999 999 1000|997 997 0", "1/997")
	misses(t, far, "-1000 -1000 -1000|1000 1000 999", "-1000 -1000 -1000|999 1000 1000", "-999 -1000 -1000|1 1 1", "-1000 -1000 -1000|-1 -1 -1")
	all := "-1000 -1000 -1000|1000 1000 1000"
	meets(t, all, "1000 1000 1000|1000 1000 1000", "0/1")
	meets(t, all, "0 0 0|0 0 -1", "0/1")
	meets(t, "-1000 -1000 1000|1000 1000 1000", "0 0 -1000|0 0 1", "2000/1")
	meets(t, "-1000 -1000 1000|1000 1000 1000", "0 0 -1000|1 1 2", "1000/1")
	meets(t, "-1000 -1000 1000|1000 1000 1000", "0 0 -1000|3 3 6", "1000/3")
	misses(t, "-1000 -1000 1000|1000 1000 1000", "0 1 -1000|3 3 6", "0 0 -999|1000 0 1000")
}

// hits: all hits, and the first one of them.
func hits(t *testing.T, blocks, ray, want string) {
	t.Helper()
	l, r := cubesOf(blocks), rayOf(ray)
	got, ok := impl.AllHits(l, r)
	if toldHits(got) != want || !ok {
		t.Errorf("AllHits(%s, %s) = %s, %v, want %s", blocks, ray, toldHits(got), ok, want)
	}
	first, isHit := impl.FirstHit(l, r)
	if want == "" && (isHit || first != (impl.Hit{})) || want != "" && (!isHit || toldHits([]impl.Hit{first}) != strings.Split(want, ", ")[0]) {
		t.Errorf("FirstHit(%s, %s) = %v, %v, want the first of %s", blocks, ray, first, isHit, want)
	}
	heldFirst(t, l, r)
	heldAllHits(t, l, r)
}

func TestHitsOneByOne(t *testing.T) {
	t.Parallel()
	// none
	hits(t, "", "0 0 0|1 0 0", "")
	hits(t, "2 2 2|3 3 3", "0 0 0|1 0 0", "")
	hits(t, "2 2 2|3 3 3; -3 0 0|-2 1 1; 0 1 0|9 9 9", "0 0 0|1 0 0", "")
	// one
	hits(t, "0 0 0|0 0 0", "0 0 0|1 0 0", "0 at 0/1")
	hits(t, "2 2 2|3 3 3; 2 0 0|3 1 1; -3 0 0|-2 1 1", "0 0 0|3 0 0", "1 at 2/3")
	// several
	hits(t, "6 0 0|7 1 1; 2 0 0|3 1 1; 9 0 0|9 1 1; 4 5 0|5 6 1", "0 0 0|3 0 0", "1 at 2/3, 0 at 2/1, 2 at 3/1")
	hits(t, "6 0 0|7 1 1; 2 0 0|3 1 1; 9 0 0|9 1 1; 4 5 0|5 6 1", "10 0 0|-2 0 0", "2 at 1/2, 0 at 3/2, 1 at 7/2")
	hits(t, "6 0 0|7 1 1; 2 0 0|3 1 1; 9 0 0|9 1 1; 4 5 0|5 6 1", "6 0 0|5 0 0", "0 at 0/1, 2 at 3/5")
	// alike: the lesser number
	hits(t, "2 0 0|9 1 1; 2 -1 0|3 1 1; 1 0 0|1 0 0; 2 0 0|2 0 0", "0 0 0|1 0 0", "2 at 1/1, 0 at 2/1, 1 at 2/1, 3 at 2/1")
	hits(t, "0 0 0|9 9 9; 1 1 1|1 1 1; -9 -9 -9|2 2 2; -1 1 1|1 2 1", "1 1 1|-4 5 -6", "0 at 0/1, 1 at 0/1, 2 at 0/1, 3 at 0/1")
	hits(t, "4 0 0|9 9 9; -9 2 0|9 9 9", "0 0 0|6 3 0", "0 at 2/3, 1 at 2/3")
	hits(t, "-9 2 0|9 9 9; 4 0 0|9 9 9", "0 0 0|6 3 0", "0 at 2/3, 1 at 2/3")
	// apart by a hair
	hits(t, "997 -1000 0|1000 1000 0; -1000 995 0|1000 1000 0", "-1000 -1000 0|999 998 0", "1 at 1995/998, 0 at 1997/999")
	hits(t, "-1000 995 0|1000 1000 0; 997 -1000 0|1000 1000 0", "-1000 -1000 0|999 998 0", "0 at 1995/998, 1 at 1997/999")
	hits(t, "-9 -9 3|9 9 9; -9 2 -9|9 9 9; 1 -9 -9|9 9 9", "0 0 0|2 3 4", "2 at 1/2, 1 at 2/3, 0 at 3/4")
}

// inARow: blocks one behind the other, each of them 1 from the next one.
func inARow(count int) []impl.Block {
	var l []impl.Block
	for at := range count {
		l = append(l, impl.Block{Lo: []int{2*at + 1, 0, 0}, Hi: []int{2*at + 2, 1, 1}})
	}
	return l
}

func TestHitsOfManyBlocks(t *testing.T) {
	t.Parallel()
	for count := range 25 {
		l := inARow(count)
		heldFirst(t, l, rayOf("0 0 0|2 0 0"))
		heldAllHits(t, l, rayOf("0 0 0|2 0 0"))
		got, ok := impl.AllHits(l, rayOf("0 0 0|2 0 0"))
		if len(got) != count || !ok {
			t.Fatalf("of %d blocks in a row %d are hit, %v", count, len(got), ok)
		}
		back, _ := impl.AllHits(l, rayOf("1000 0 0|-2 0 0"))
		for at := range got {
			if want := (impl.Hit{Block: at, Num: 2*at + 1, Den: 2}); got[at] != want || back[count-1-at].Block != at {
				t.Errorf("of %d blocks in a row hit %d is %v, back %v", count, at, got[at], back[count-1-at])
			}
		}
	}
	for _, count := range []int{25, 26, 48, 256, 1 << 16} {
		refusedCubes(t, slices.Repeat(inARow(1), count))
		refusedCubes(t, make([]impl.Block, count))
	}
	refusedCubes(t, inARow(25))
}
