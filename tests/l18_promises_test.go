package tests

import (
	"math"
	"slices"
	"testing"

	"loop.example/g00053/impl"
)

// sameByTree: of a list and a ray what is met by the tree, one by one and of all is the
// same, and each twig is asked for once at most; whether something is met.
func sameByTree(t *testing.T, l []impl.Block, r impl.Ray) bool {
	t.Helper()
	twigs, isTree := impl.TreeOf(l)
	if !isTree || !impl.GoodTwigs(l, twigs) {
		t.Fatalf("%v have the tree %v, %v", l, twigs, isTree)
	}
	first, isHit := impl.FirstHit(l, r)
	byTree, asked, ok := impl.TreeHit(l, twigs, r)
	if byTree != first || ok != isHit {
		t.Errorf("of %v %v meets %v, %v by the tree, %v, %v one by one", l, r, byTree, ok, first, isHit)
	}
	if asked < 1 || asked > len(twigs) || asked%2 == 0 {
		t.Errorf("of %v %v asks for %d of %d twigs", l, r, asked, len(twigs))
	}
	all, good := impl.AllHits(l, r)
	if !good || (len(all) > 0) != isHit || isHit && all[0] != first {
		t.Errorf("of %v %v meets %v, %v, first %v, %v", l, r, all, good, first, isHit)
	}
	return isHit
}

// Promise 18: of drawn blocks and rays.
func TestPromise18TreesMeetTheSame(t *testing.T) {
	t.Parallel()
	c := newChance(336)
	hits := 0
	for n := range 36000 {
		reach := c.someReach()
		l := c.cubesWithin(reach, 1+n%24)
		r := c.rayTo(l[c.Intn(len(l))], reach)
		if n%5 == 0 {
			r = c.rayWithin(reach)
		}
		if sameByTree(t, l, r) {
			hits++
		}
	}
	if hits < 18000 || hits > 34000 {
		t.Errorf("in %d lists something is met", hits)
	}
}

// Promise 18: of all rays of a small field, in which many blocks are met at once.
func TestPromise18TreesInASmallField(t *testing.T) {
	t.Parallel()
	c := newChance(337)
	for n := range 24 {
		l := c.cubesWithin(2, 1+n%24)
		for from := range 5 * 5 * 5 {
			for way := range 27 {
				if way != 13 {
					sameByTree(t, l, impl.Ray{From: []int{from%5 - 2, from/5%5 - 2, from/25 - 2}, Way: []int{way%3 - 1, way/3%3 - 1, way/9 - 1}})
				}
			}
		}
	}
}

// whereAt: how a place at a moment lies to a block along an axis: below 0 ahead of it, 0
// in it, above 0 behind it.
func whereAt(b impl.Block, r impl.Ray, axis, num, den int) int {
	at := r.From[axis]*den + r.Way[axis]*num
	switch {
	case at < b.Lo[axis]*den:
		return -1
	case at > b.Hi[axis]*den:
		return 1
	}
	return 0
}

// Promise 18: all hits are those of each block by itself, in order; at its moment a
// hit's block is met, and just ahead of it it is not.
func TestPromise18AllHitsOneByOne(t *testing.T) {
	t.Parallel()
	c := newChance(338)
	for range 12000 {
		reach := c.someReach()
		l := c.cubesWithin(reach, c.Intn(25))
		r := c.rayTo(c.cubeWithin(reach), reach)
		all, _ := impl.AllHits(l, r)
		met := map[int]bool{}
		for at, h := range all {
			met[h.Block] = true
			if num, den, ok := impl.HitBlock(l[h.Block], r); num != h.Num || den != h.Den || !ok {
				t.Errorf("of %v %v meets %v, by itself %d, %d, %v", l, r, h, num, den, ok)
			}
			if at > 0 {
				last := all[at-1]
				if ahead := last.Num*h.Den - h.Num*last.Den; ahead > 0 || ahead == 0 && last.Block >= h.Block {
					t.Errorf("of %v %v meets %v ahead of %v", l, r, last, h)
				}
			}
			justMet(t, l[h.Block], r, h)
		}
		for number, b := range l {
			if num, den, ok := impl.HitBlock(b, r); !met[number] && (ok || num != 0 || den != 0) {
				t.Errorf("block %d of %v is met by %v, but not among all", number, l, r)
			}
		}
		if len(met) != len(all) {
			t.Errorf("of %v %v meets one twice: %v", l, r, all)
		}
	}
}

// justMet: whether a hit's place is in the block, and places a hair ahead of it are not.
func justMet(t *testing.T, b impl.Block, r impl.Ray, h impl.Hit) {
	t.Helper()
	if h.Num < 0 || h.Den < 1 || divides(h.Num, h.Den) {
		t.Errorf("%v at %v", r, h)
	}
	fine, outside := 1<<30, false
	for axis := range 3 {
		if whereAt(b, r, axis, h.Num, h.Den) != 0 {
			t.Errorf("%v is not in %v at %v", r, b, h)
		}
		outside = outside || whereAt(b, r, axis, h.Num*fine-1, h.Den*fine) != 0
	}
	if h.Num > 0 && !outside {
		t.Errorf("%v is in %v ahead of %v", r, b, h)
	}
}

// divides: whether two numbers have a divisor from 2 on in common.
func divides(a, b int) bool {
	for by := 2; by <= max(min(a, b), 1); by++ {
		if a%by == 0 && b%by == 0 {
			return true
		}
	}
	return a == 0 && b > 1
}

// Promise 18: blocks in another order, or along other axes and from other sides, are
// met at the same moments.
func TestPromise18OtherOrdersAndSides(t *testing.T) {
	t.Parallel()
	c := newChance(339)
	for n := range 8000 {
		reach := c.someReach()
		l := c.cubesWithin(reach, 1+n%24)
		r := c.rayTo(l[c.Intn(len(l))], reach)
		want, _ := impl.AllHits(l, r)
		order, axes, sides := c.Perm(len(l)), axisOrders[c.Intn(6)], c.Intn(8)
		turned := make([]impl.Block, len(l))
		for number, at := range order {
			turned[at] = movedCube(l[number], axes, sides)
		}
		seen := impl.Ray{From: moved(r.From, axes, sides), Way: moved(r.Way, axes, sides)}
		sameByTree(t, turned, seen)
		got, _ := impl.AllHits(turned, seen)
		if len(got) != len(want) {
			t.Fatalf("%v are met in another order: %v, %v", l, want, got)
		}
		for at, h := range want {
			if got[at].Num != h.Num || got[at].Den != h.Den || !slices.Contains(got, impl.Hit{Block: order[h.Block], Num: h.Num, Den: h.Den}) {
				t.Errorf("%v are met in another order: %v, %v", l, want, got)
			}
		}
	}
}

// Promise 18: by a way that is so many times as long all is met so many times as soon.
func TestPromise18LongerWays(t *testing.T) {
	t.Parallel()
	c := newChance(340)
	for range 30000 {
		reach := c.oneOf(2, 4, 9, 30, 100)
		b := c.cubeWithin(reach)
		r := c.rayWithin(reach)
		for axis := range 3 {
			r.Way[axis] = c.within(reach)
		}
		r.Way[c.Intn(3)] = reach
		times := 1 + c.Intn(1000/reach)
		longer := impl.Ray{From: r.From, Way: []int{times * r.Way[0], times * r.Way[1], times * r.Way[2]}}
		num, den, ok := impl.HitBlock(b, r)
		soon, of, is := impl.HitBlock(b, longer)
		if ok != is || soon*times*den != num*of || ok && divides(soon, of) {
			t.Errorf("%v is met by %v at %d / %d, %d times as soon at %d / %d", b, r, num, den, times, soon, of)
		}
	}
}

// Promise 18: a tree has each block in one leaf, in halves, each twig just around what
// is beneath it.
func TestPromise18Trees(t *testing.T) {
	t.Parallel()
	c := newChance(341)
	for n := range 4800 {
		l := c.cubesWithin(c.someReach(), 1+n%24)
		twigs, ok := impl.TreeOf(l)
		if !ok || len(twigs) != 2*len(l)-1 {
			t.Fatalf("%v have the tree %v, %v", l, twigs, ok)
		}
		if beneath, end := heldBeneath(t, l, twigs, 0); end != len(twigs) || !slices.Equal(beneath, upTo(len(l))) {
			t.Errorf("%v have the tree %v", l, twigs)
		}
	}
}

// heldBeneath: which blocks are beneath a twig, rising, and the number of the twig
// behind all of these.
func heldBeneath(t *testing.T, l []impl.Block, twigs []impl.Twig, at int) ([]int, int) {
	t.Helper()
	x := twigs[at]
	if x.Leaf >= 0 {
		if !sameCube(x.Box, l[x.Leaf]) || x.Left != -1 || x.Right != -1 {
			t.Errorf("twig %d of %v is %v", at, l, x)
		}
		return []int{x.Leaf}, at + 1
	}
	left, middle := heldBeneath(t, l, twigs, at+1)
	right, end := heldBeneath(t, l, twigs, middle)
	all := slices.Sorted(slices.Values(slices.Concat(left, right)))
	if more := len(right) - len(left); more < 0 || more > 1 || x.Left != at+1 || x.Right != middle || x.Leaf != -1 || !sameCube(x.Box, cubeAround(l, all)) {
		t.Errorf("twig %d of %v is %v", at, l, x)
	}
	axis := widestOf(l, all)
	for _, a := range left {
		for _, b := range right {
			if apart := l[b].Lo[axis] + l[b].Hi[axis] - l[a].Lo[axis] - l[a].Hi[axis]; apart < 0 || apart == 0 && b < a {
				t.Errorf("twig %d of %v has %d at its left, %d at its right", at, l, a, b)
			}
		}
	}
	return all, end
}

// anyCoordinates: most often three numbers in the cube.
func (c chance) anyCoordinates(good []int) []int {
	switch c.Intn(16) {
	case 0:
		return nil
	case 1:
		return good[:c.Intn(3)]
	case 2:
		return append(slices.Clone(good), good[:1+c.Intn(3)]...)
	case 3, 4:
		good = slices.Clone(good)
		good[c.Intn(3)] = c.anyNumber(-1001, -1000, 1000, 1001, 0)
	}
	return good
}

// anyCube: some are turned inside out.
func (c chance) anyCube(reach int) impl.Block {
	b := c.cubeWithin(reach)
	if c.Intn(8) == 0 {
		axis := c.Intn(3)
		b.Lo[axis], b.Hi[axis] = b.Hi[axis], b.Lo[axis]
	}
	return impl.Block{Lo: c.anyCoordinates(b.Lo), Hi: c.anyCoordinates(b.Hi)}
}

func (c chance) anyRay(reach int) impl.Ray {
	r := c.rayWithin(reach)
	return impl.Ray{From: c.anyCoordinates(r.From), Way: c.anyCoordinates(r.Way)}
}

// anyCubes: some lists have one that is not good, some are too long.
func (c chance) anyCubes(reach int) []impl.Block {
	l := c.cubesWithin(reach, c.Intn(25))
	switch c.Intn(6) {
	case 0:
		l = slices.Insert(l, c.Intn(len(l)+1), c.anyCube(reach))
	case 1:
		l = append(l, c.cubesWithin(reach, c.Intn(30))...)
	}
	return l
}

// Promise 25: blocks, rays and lists of any kind.
func TestPromise25AnyBlocksAndRays(t *testing.T) {
	t.Parallel()
	c := newChance(342)
	var good [6]int
	for range 20000 {
		reach := c.someReach()
		b, r, l := c.anyCube(reach), c.anyRay(reach), c.anyCubes(reach)
		for at, ok := range []bool{heldCube(t, b), heldRay(t, r), heldHit(t, b, r), heldFirst(t, l, r), heldAllHits(t, l, r)} {
			if ok {
				good[at]++
			}
		}
		heldHit(t, c.cubeWithin(reach), r)
		heldHit(t, b, c.rayWithin(reach))
		if _, ok := heldTree(t, l); ok {
			good[5]++
		}
	}
	for number, n := range good {
		if n < 300 || n > 17000 {
			t.Errorf("function %d: %d of 20000 are as said", number, n)
		}
	}
}

// Promise 25: twigs of any kind.
func TestPromise25AnyTwigs(t *testing.T) {
	t.Parallel()
	c := newChance(343)
	var good [2]int
	for n := range 12000 {
		reach := c.someReach()
		l := c.anyCubes(reach)
		r := c.anyRay(reach)
		twigs, _ := impl.TreeOf(l)
		switch {
		case n%7 == 0:
			twigs, _ = impl.TreeOf(c.cubesWithin(reach, c.Intn(25)))
		case n%3 == 0 && len(twigs) > 0:
			twigs = c.changedTwigs(twigs)
		case n%11 == 0:
			twigs = append(twigs, impl.Twig{Box: c.anyCube(reach), Left: c.anyNumber(1), Right: c.anyNumber(2), Leaf: c.anyNumber(0, -1)})
		}
		if heldTwigs(t, l, twigs) {
			good[0]++
		}
		if heldTreeHit(t, l, twigs, r) {
			good[1]++
		}
	}
	if good[0] < 3000 || good[0] > 9000 || good[1] < 300 || good[1] > 6000 {
		t.Errorf("of 12000 %d are good, %d are hit", good[0], good[1])
	}
}

// Promise 25: the least and the greatest numbers everywhere, nothing at all, and far
// too much.
func TestPromise25NoBlocksAndTooMany(t *testing.T) {
	t.Parallel()
	ends := []int{math.MinInt, math.MinInt + 1, -1, 0, 1, math.MaxInt - 1, math.MaxInt}
	l := inARow(3)
	for n := range 7 * 7 * 7 * 7 {
		a, b, d, e := ends[n%7], ends[n/7%7], ends[n/49%7], ends[n/343]
		x, r := impl.Block{Lo: []int{a, b, d}, Hi: []int{e, a, b}}, impl.Ray{From: []int{d, e, a}, Way: []int{b, d, e}}
		heldCube(t, x)
		heldRay(t, r)
		heldHit(t, x, r)
		heldHit(t, x, rayOf("0 0 0|1 0 0"))
		heldHit(t, l[0], r)
		heldFirst(t, []impl.Block{x, x}, r)
		heldAllHits(t, append(inARow(2), x), r)
		heldTree(t, append(inARow(2), x))
		twigs, _ := impl.TreeOf(l)
		twigs[n%5] = impl.Twig{Box: x, Left: b, Right: d, Leaf: e}
		heldTwigs(t, l, twigs)
		heldTreeHit(t, l, twigs, r)
		heldTreeHit(t, l, twigs, rayOf("0 0 0|1 0 0"))
	}
	for _, count := range []int{25, 1 << 16} {
		refusedTwigs(t, make([]impl.Block, count), make([]impl.Twig, 2*count-1))
		refusedTwigs(t, slices.Repeat(l, count), make([]impl.Twig, 2*3*count-1))
		refusedTwigs(t, l, make([]impl.Twig, count))
	}
	refusedTwigs(t, nil, nil)
	refusedTwigs(t, nil, make([]impl.Twig, 1))
	heldFirst(t, nil, rayOf("0 0 0|1 0 0"))
	heldAllHits(t, nil, rayOf("0 0 0|1 0 0"))
}

// withMore: lists with as much again behind them, which is not to be read.
func withMore(b impl.Block) impl.Block {
	return impl.Block{Lo: behind(b.Lo), Hi: behind(b.Hi)}
}

func cubesWithMore(l []impl.Block) []impl.Block {
	var more []impl.Block
	for range 2 {
		for _, b := range l {
			more = append(more, withMore(b))
		}
	}
	return more[:len(l)]
}

func twigsWithMore(l []impl.Twig) []impl.Twig {
	more := slices.Concat(l, l)
	for at := range more {
		more[at].Box = withMore(more[at].Box)
	}
	return more[:len(l)]
}

func isCube(b, was impl.Block) bool { return unchanged(b.Lo, was.Lo) && unchanged(b.Hi, was.Hi) }

// areCubes: whether blocks are as they were, with what lies behind them.
func areCubes(l, was []impl.Block) bool {
	return slices.EqualFunc(l, was, isCube) && slices.EqualFunc(l[:2*len(l)][len(l):], was, isCube)
}

func areTwigs(l, was []impl.Twig) bool {
	same := func(a, b impl.Twig) bool {
		return isCube(a.Box, b.Box) && [3]int{a.Left, a.Right, a.Leaf} == [3]int{b.Left, b.Right, b.Leaf}
	}
	return slices.EqualFunc(l, was, same) && slices.EqualFunc(l[:2*len(l)][len(l):], was, same)
}

// Promise 25: nothing is written into blocks, twigs and rays, and no answer hangs on
// what lies behind them.
func TestPromise25BlocksAndRaysStay(t *testing.T) {
	t.Parallel()
	c := newChance(344)
	for n := range 3000 {
		reach := c.someReach()
		was := c.cubesWithin(reach, 1+n%24)
		ray := c.rayTo(was[c.Intn(len(was))], reach)
		given, r := cubesWithMore(was), impl.Ray{From: behind(ray.From), Way: behind(ray.Way)}
		tree, _ := wantTreeOf(was)
		twigs := twigsWithMore(tree)
		heldCube(t, given[0])
		heldRay(t, r)
		heldHit(t, given[0], r)
		heldFirst(t, given, r)
		heldAllHits(t, given, r)
		heldTree(t, given)
		if !heldTwigs(t, given, twigs) {
			t.Errorf("%v are not good", twigs)
		}
		heldTreeHit(t, given, twigs, r)
		if !areCubes(given, was) || !areTwigs(twigs, tree) || !unchanged(r.From, ray.From) || !unchanged(r.Way, ray.Way) {
			t.Errorf("%v, its twigs or %v is changed", was, ray)
		}
	}
}

// Promise 25: trees and lists of hits are new memory, each list of a tree by itself.
func TestPromise25TreesAreNewMemory(t *testing.T) {
	t.Parallel()
	c := newChance(345)
	for n := range 3000 {
		reach := c.someReach()
		was := c.cubesWithin(reach, 1+n%24)
		r := c.rayTo(was[c.Intn(len(was))], reach)
		given := cubesWithMore(was)
		want, _ := wantTreeOf(was)
		hits, _ := wantAllHits(was, r)
		first, _ := impl.TreeOf(given)
		second, _ := impl.TreeOf(given)
		one, _ := impl.AllHits(given, r)
		two, _ := impl.AllHits(given, r)
		var lists [][]int
		for _, x := range first {
			lists = append(lists, x.Box.Lo, x.Box.Hi)
		}
		listsApart(t, "TreeOf", lists...)
		clear(first[:cap(first)])
		clear(one[:cap(one)])
		if !areCubes(given, was) || !sameTwigs(second, want) || !slices.Equal(two, hits) {
			t.Errorf("what TreeOf or AllHits answers of %v shares its memory", was)
		}
		for _, b := range given {
			clear(b.Lo)
			clear(b.Hi)
		}
		clear(given)
		third, _ := impl.TreeOf(was)
		three, _ := impl.AllHits(was, r)
		if !sameTwigs(second, want) || !sameTwigs(third, want) || !slices.Equal(two, hits) || !slices.Equal(three, hits) {
			t.Errorf("what TreeOf or AllHits answers of %v is changed", was)
		}
	}
}
