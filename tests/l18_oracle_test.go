package tests

import (
	"math"
	"math/big"
	"slices"

	"loop.example/g00053/impl"
)

// Rays another way: a way is cut into so many parts that the ray comes to each side of
// each block behind a whole number of them. All these numbers are tried, and none at
// all, and the least one behind which the ray is in the block counts. In a tree each
// block has its place by how many others come ahead of it, and twigs are numbered by
// how many blocks they have; it is walked through by a list of the twigs that are still
// to be asked for.

// never: where nothing is met.
const never = math.MaxInt

func wantCoordinates(l []int) bool {
	wrong := func(n int) bool { return n > 1000 || n < -1000 }
	return len(l) == 3 && !slices.ContainsFunc(l, wrong)
}

func wantCube(b impl.Block) bool {
	return wantCoordinates(b.Lo) && wantCoordinates(b.Hi) && b.Lo[0] <= b.Hi[0] && b.Lo[1] <= b.Hi[1] && b.Lo[2] <= b.Hi[2]
}

func wantCubes(l []impl.Block) bool {
	for _, b := range l {
		if !wantCube(b) {
			return false
		}
	}
	return len(l) < 25
}

func wantRay(r impl.Ray) bool {
	return wantCoordinates(r.From) && wantCoordinates(r.Way) && !slices.Equal(r.Way, []int{0, 0, 0})
}

// cutsOf: into how many parts a way is cut.
func cutsOf(r impl.Ray) int {
	cuts := 1
	for _, way := range r.Way {
		if way != 0 {
			cuts *= max(way, -way)
		}
	}
	return cuts
}

// isThere: whether a ray is in a block behind so many parts.
func isThere(b impl.Block, r impl.Ray, parts int) bool {
	cuts := cutsOf(r)
	for axis, from := range r.From {
		if at := from*cuts + parts*r.Way[axis]; at < b.Lo[axis]*cuts || at > b.Hi[axis]*cuts {
			return false
		}
	}
	return true
}

// meeting: of a good block and a good ray, in parts.
func meeting(b impl.Block, r impl.Ray) int {
	least := never
	tried := []int{0}
	for axis, way := range r.Way {
		if way != 0 {
			part := cutsOf(r) / way
			tried = append(tried, (b.Lo[axis]-r.From[axis])*part, (b.Hi[axis]-r.From[axis])*part)
		}
	}
	for _, parts := range tried {
		if parts >= 0 && parts < least && isThere(b, r, parts) {
			least = parts
		}
	}
	return least
}

func hitAfter(parts int, r impl.Ray, block int) impl.Hit {
	t := big.NewRat(int64(parts), int64(cutsOf(r)))
	return impl.Hit{Block: block, Num: int(t.Num().Int64()), Den: int(t.Denom().Int64())}
}

func wantHit(b impl.Block, r impl.Ray) (int, int, bool) {
	if !wantCube(b) || !wantRay(r) || meeting(b, r) == never {
		return 0, 0, false
	}
	hit := hitAfter(meeting(b, r), r, 0)
	return hit.Num, hit.Den, true
}

func wantFirstHit(l []impl.Block, r impl.Ray) (impl.Hit, bool) {
	if !wantCubes(l) || !wantRay(r) {
		return impl.Hit{}, false
	}
	first, block := never, 0
	for number, b := range l {
		if parts := meeting(b, r); parts < first {
			first, block = parts, number
		}
	}
	if first == never {
		return impl.Hit{}, false
	}
	return hitAfter(first, r, block), true
}

func wantAllHits(l []impl.Block, r impl.Ray) ([]impl.Hit, bool) {
	if !wantCubes(l) || !wantRay(r) {
		return nil, false
	}
	var meetings []int
	for _, b := range l {
		meetings = append(meetings, meeting(b, r))
	}
	var hits []impl.Hit
	for range meetings {
		next := slices.Index(meetings, slices.Min(meetings))
		if meetings[next] != never {
			hits = append(hits, hitAfter(meetings[next], r, next))
			meetings[next] = never
		}
	}
	return hits, true
}

// cubeAround: the least block around those with these numbers.
func cubeAround(l []impl.Block, numbers []int) impl.Block {
	around := impl.Block{}
	for axis := range 3 {
		var lo, hi []int
		for _, number := range numbers {
			lo, hi = append(lo, l[number].Lo[axis]), append(hi, l[number].Hi[axis])
		}
		around.Lo = append(around.Lo, slices.Min(lo))
		around.Hi = append(around.Hi, slices.Max(hi))
	}
	return around
}

// widestOf: along which axis blocks are parted.
func widestOf(l []impl.Block, numbers []int) int {
	most, by := -1, 0
	for axis := range 3 {
		for _, a := range numbers {
			for _, b := range numbers {
				if apart := l[a].Lo[axis] + l[a].Hi[axis] - l[b].Lo[axis] - l[b].Hi[axis]; apart > most {
					most, by = apart, axis
				}
			}
		}
	}
	return by
}

// grownFrom: the twigs of blocks with these numbers, the first one of them being number
// at.
func grownFrom(l []impl.Block, numbers []int, at int) []impl.Twig {
	twig := impl.Twig{Box: cubeAround(l, numbers), Left: -1, Right: -1, Leaf: numbers[0]}
	if len(numbers) == 1 {
		return []impl.Twig{twig}
	}
	axis, half := widestOf(l, numbers), len(numbers)/2
	var left, right []int
	for _, number := range numbers {
		ahead := 0
		for _, other := range numbers {
			apart := l[number].Lo[axis] + l[number].Hi[axis] - l[other].Lo[axis] - l[other].Hi[axis]
			if apart > 0 || apart == 0 && other < number {
				ahead++
			}
		}
		if ahead < half {
			left = append(left, number)
		} else {
			right = append(right, number)
		}
	}
	twig.Left, twig.Right, twig.Leaf = at+1, at+2*half, -1
	return slices.Concat([]impl.Twig{twig}, grownFrom(l, left, twig.Left), grownFrom(l, right, twig.Right))
}

func wantTreeOf(l []impl.Block) ([]impl.Twig, bool) {
	if len(l) == 0 || !wantCubes(l) {
		return nil, false
	}
	return grownFrom(l, upTo(len(l)), 0), true
}

func sameCube(a, b impl.Block) bool {
	return slices.Equal(a.Lo, b.Lo) && slices.Equal(a.Hi, b.Hi)
}

func sameTwigs(a, b []impl.Twig) bool {
	return slices.EqualFunc(a, b, func(x, y impl.Twig) bool {
		return sameCube(x.Box, y.Box) && [3]int{x.Left, x.Right, x.Leaf} == [3]int{y.Left, y.Right, y.Leaf}
	})
}

func wantTwigs(l []impl.Block, t []impl.Twig) bool {
	tree, ok := wantTreeOf(l)
	return ok && sameTwigs(tree, t)
}

func wantTreeHit(l []impl.Block, t []impl.Twig, r impl.Ray) (impl.Hit, int, bool) {
	if !wantTwigs(l, t) || !wantRay(r) {
		return impl.Hit{}, 0, false
	}
	asked, first, block := 0, never, 0
	for still := []int{0}; len(still) > 0; asked++ {
		twig := t[still[0]]
		still = still[1:]
		parts := meeting(twig.Box, r)
		if parts == never || parts > first {
			continue
		}
		if twig.Leaf >= 0 {
			if parts < first || twig.Leaf < block {
				first, block = parts, twig.Leaf
			}
			continue
		}
		next := []int{twig.Left, twig.Right}
		if meeting(t[twig.Right].Box, r) < meeting(t[twig.Left].Box, r) {
			slices.Reverse(next)
		}
		still = append(next, still...)
	}
	if first == never {
		return impl.Hit{}, asked, false
	}
	return hitAfter(first, r, block), asked, true
}
