package tests

import (
	"slices"
	"testing"

	"loop.example/g00053/impl"
)

// Each heldX: a function answers, at any arguments, as it is worked out another way;
// whether these are as said, or something is hit.

func heldCube(t *testing.T, b impl.Block) bool {
	t.Helper()
	want := wantCube(b)
	if got := impl.GoodBlock(b); got != want {
		t.Errorf("GoodBlock(%v) = %v", b, got)
	}
	return want
}

func heldRay(t *testing.T, r impl.Ray) bool {
	t.Helper()
	want := wantRay(r)
	if got := impl.GoodRay(r); got != want {
		t.Errorf("GoodRay(%v) = %v", r, got)
	}
	return want
}

func heldHit(t *testing.T, b impl.Block, r impl.Ray) bool {
	t.Helper()
	wantNum, wantDen, want := wantHit(b, r)
	if num, den, ok := impl.HitBlock(b, r); num != wantNum || den != wantDen || ok != want {
		t.Errorf("HitBlock(%v, %v) = %d, %d, %v, want %d, %d, %v", b, r, num, den, ok, wantNum, wantDen, want)
	}
	return want
}

func heldFirst(t *testing.T, l []impl.Block, r impl.Ray) bool {
	t.Helper()
	want, is := wantFirstHit(l, r)
	if got, ok := impl.FirstHit(l, r); got != want || ok != is {
		t.Errorf("FirstHit(%v, %v) = %v, %v, want %v, %v", briefly(l), r, got, ok, want, is)
	}
	return is
}

func heldAllHits(t *testing.T, l []impl.Block, r impl.Ray) bool {
	t.Helper()
	want, good := wantAllHits(l, r)
	if got, ok := impl.AllHits(l, r); !slices.Equal(got, want) || ok != good {
		t.Errorf("AllHits(%v, %v) = %v, %v, want %v, %v", briefly(l), r, got, ok, want, good)
	}
	return good
}

func heldTree(t *testing.T, l []impl.Block) ([]impl.Twig, bool) {
	t.Helper()
	want, good := wantTreeOf(l)
	got, ok := impl.TreeOf(l)
	if !sameTwigs(got, want) || ok != good {
		t.Errorf("TreeOf(%v) = %v, %v, want %v, %v", briefly(l), got, ok, want, good)
	}
	return got, good
}

func heldTwigs(t *testing.T, l []impl.Block, twigs []impl.Twig) bool {
	t.Helper()
	want := wantTwigs(l, twigs)
	if got := impl.GoodTwigs(l, twigs); got != want {
		t.Errorf("GoodTwigs(%v, %v) = %v", briefly(l), briefly(twigs), got)
	}
	return want
}

func heldTreeHit(t *testing.T, l []impl.Block, twigs []impl.Twig, r impl.Ray) bool {
	t.Helper()
	want, wantAsked, is := wantTreeHit(l, twigs, r)
	if got, asked, ok := impl.TreeHit(l, twigs, r); got != want || asked != wantAsked || ok != is {
		t.Errorf("TreeHit(%v, %v, %v) = %v, %d, %v, want %v, %d, %v", briefly(l), briefly(twigs), r, got, asked, ok, want, wantAsked, is)
	}
	return is
}

// someReach: how far from 0 places are.
func (c chance) someReach() int { return c.oneOf(2, 4, 4, 9, 30, 200, 1000) }

func (c chance) within(reach int) int { return c.Intn(2*reach+1) - reach }

// cubeWithin: some blocks have no width along an axis, or along all of them, some have
// all that there is.
func (c chance) cubeWithin(reach int) impl.Block {
	var b impl.Block
	for range 3 {
		lo, hi := c.within(reach), c.within(reach)
		switch c.Intn(12) {
		case 0, 1:
			lo = hi
		case 2:
			lo, hi = -reach, reach
		case 3, 4, 5:
			hi = min(lo+c.Intn(3), reach)
		}
		b.Lo, b.Hi = append(b.Lo, min(lo, hi)), append(b.Hi, max(lo, hi))
	}
	return b
}

// cubesWithin: some lists have alike blocks, some lie in one row.
func (c chance) cubesWithin(reach, count int) []impl.Block {
	var l []impl.Block
	row := c.Intn(4) == 0
	for range count {
		b := c.cubeWithin(reach)
		if len(l) > 0 && c.Intn(6) == 0 {
			b = clonedCube(l[c.Intn(len(l))])
		}
		if row {
			b.Lo[1], b.Hi[1] = -reach, reach
			b.Lo[2], b.Hi[2] = min(0, b.Lo[2]), max(0, b.Hi[2])
		}
		l = append(l, b)
	}
	return l
}

func clonedCube(b impl.Block) impl.Block {
	return impl.Block{Lo: slices.Clone(b.Lo), Hi: slices.Clone(b.Hi)}
}

func (c chance) spotIn(b impl.Block) []int {
	var at []int
	for axis, lo := range b.Lo {
		at = append(at, lo+c.Intn(b.Hi[axis]-lo+1))
	}
	return at
}

// rayWithin: along few axes or along all of them, slowly or fast.
func (c chance) rayWithin(reach int) impl.Ray {
	var r impl.Ray
	for {
		r = impl.Ray{}
		for range 3 {
			r.From = append(r.From, c.within(reach))
			r.Way = append(r.Way, c.oneOf(0, 0, 1, -1, c.within(3), c.within(reach), c.within(1000)))
		}
		if !slices.Equal(r.Way, []int{0, 0, 0}) {
			return r
		}
	}
}

// rayTo: to a place in a block, if it is not too far off, or somewhere.
func (c chance) rayTo(b impl.Block, reach int) impl.Ray {
	r := c.rayWithin(reach)
	if c.Intn(5) == 0 {
		return r
	}
	way := c.spotIn(b)
	for axis := range way {
		way[axis] = min(max(way[axis]-r.From[axis], -1000), 1000)
	}
	if slices.Equal(way, []int{0, 0, 0}) {
		return r
	}
	r.Way = way
	return r
}

func TestHittingDrawnBlocks(t *testing.T) {
	t.Parallel()
	c := newChance(331)
	hits, within := 0, 0
	for range 150000 {
		reach := c.someReach()
		b := c.cubeWithin(reach)
		r := c.rayTo(b, reach)
		if !heldCube(t, b) || !heldRay(t, r) {
			t.Errorf("%v or %v is not taken", b, r)
		}
		if heldHit(t, b, r) {
			hits++
		}
		if num, _, ok := impl.HitBlock(b, r); ok && num == 0 {
			within++
		}
	}
	if hits < 60000 || hits > 140000 || within < 5000 {
		t.Errorf("%d are hit, %d from within", hits, within)
	}
}

// All rays from around a block, on its sides, edges and corners, and from within.
func TestHittingAllAround(t *testing.T) {
	t.Parallel()
	for _, b := range cubesOf("0 0 0|2 2 2; 0 1 0|2 1 2; 1 0 1|1 2 1; 1 1 1|1 1 1") {
		for from := range 7 * 7 * 7 {
			for way := range 5 * 5 * 5 {
				r := impl.Ray{From: []int{from%7 - 2, from/7%7 - 2, from/49 - 2}, Way: []int{way%5 - 2, way/5%5 - 2, way/25 - 2}}
				if heldRay(t, r) != (way != 62) {
					t.Errorf("GoodRay(%v)", r)
				}
				heldHit(t, b, r)
			}
		}
	}
}

func TestHitsOfDrawnBlocks(t *testing.T) {
	t.Parallel()
	c := newChance(332)
	hits := 0
	for range 20000 {
		reach := c.someReach()
		l := c.cubesWithin(reach, c.Intn(25))
		r := c.rayTo(c.cubeWithin(reach), reach)
		if heldFirst(t, l, r) {
			hits++
		}
		if !heldAllHits(t, l, r) {
			t.Errorf("%v or %v is not taken", l, r)
		}
	}
	if hits < 10000 || hits > 19000 {
		t.Errorf("in %d lists something is hit", hits)
	}
}

func TestTreesOfDrawnBlocks(t *testing.T) {
	t.Parallel()
	c := newChance(333)
	for n := range 9600 {
		l := c.cubesWithin(c.someReach(), 1+n%24)
		twigs, ok := heldTree(t, l)
		if !ok || !heldTwigs(t, l, twigs) {
			t.Errorf("%v is not taken", l)
		}
	}
}

func TestHittingByDrawnTrees(t *testing.T) {
	t.Parallel()
	c := newChance(334)
	hits, all, fewer := 0, 0, 0
	for n := range 24000 {
		reach := c.someReach()
		l := c.cubesWithin(reach, 1+n%24)
		r := c.rayTo(l[c.Intn(len(l))], reach)
		twigs, _ := heldTree(t, l)
		if heldTreeHit(t, l, twigs, r) {
			hits++
		}
		if _, asked, _ := impl.TreeHit(l, twigs, r); asked == len(twigs) {
			all++
		} else {
			fewer++
		}
	}
	if hits < 15000 || hits > 23000 || all < 3000 || fewer < 3000 {
		t.Errorf("%d are hit, in %d all twigs are asked for, in %d fewer", hits, all, fewer)
	}
}

// changedTwigs: with one thing changed.
func (c chance) changedTwigs(twigs []impl.Twig) []impl.Twig {
	twigs = clonedTwigs(twigs)
	at := c.Intn(len(twigs))
	switch x := &twigs[at]; c.Intn(9) {
	case 0:
		x.Left += c.oneOf(-1, 1, c.within(3))
	case 1:
		x.Right += c.oneOf(-1, 1, c.within(3))
	case 2:
		x.Leaf += c.oneOf(-1, 1, c.within(3))
	case 3:
		x.Box.Lo[c.Intn(3)] += c.oneOf(-1, 1)
	case 4:
		x.Box.Hi[c.Intn(3)] += c.oneOf(-1, 1)
	case 5:
		return twigs[:at]
	case 6:
		return append(twigs, twigs[at])
	case 7:
		return append(twigs, impl.Twig{})
	case 8:
		other := c.Intn(len(twigs))
		twigs[at], twigs[other] = twigs[other], twigs[at]
	}
	return twigs
}

func clonedTwigs(l []impl.Twig) []impl.Twig {
	l = slices.Clone(l)
	for at := range l {
		l[at].Box = clonedCube(l[at].Box)
	}
	return l
}

func TestDrawnTwigsThatAreChanged(t *testing.T) {
	t.Parallel()
	c := newChance(335)
	good := 0
	for n := range 12000 {
		reach := c.someReach()
		l := c.cubesWithin(reach, 1+n%24)
		twigs, _ := impl.TreeOf(l)
		switch c.Intn(3) {
		case 0:
			twigs = c.changedTwigs(twigs)
		case 1:
			l = slices.Clone(l)
			l[c.Intn(len(l))] = c.cubeWithin(reach)
		}
		if heldTwigs(t, l, twigs) {
			good++
		}
		heldTreeHit(t, l, twigs, c.rayTo(l[0], reach))
	}
	if good < 3500 || good > 6000 {
		t.Errorf("%d of 12000 are good", good)
	}
}
