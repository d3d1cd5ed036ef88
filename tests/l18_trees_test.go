package tests

import (
	"math"
	"slices"
	"strconv"
	"strings"
	"testing"

	"loop.example/g00053/impl"
)

// The edges that chapter 18 names of trees and what is hit by them, with what is
// answered written out.

func toldNumbers(l []int) string {
	var told []string
	for _, n := range l {
		told = append(told, strconv.Itoa(n))
	}
	return strings.Join(told, " ")
}

// toldTwigs: of each twig its Box, and its Left and Right or its Leaf.
func toldTwigs(l []impl.Twig) string {
	var told []string
	for _, x := range l {
		text := toldNumbers(x.Box.Lo) + "|" + toldNumbers(x.Box.Hi)
		if x.Leaf == -1 {
			text += " to " + toldNumbers([]int{x.Left, x.Right})
		} else {
			text += " leaf " + strconv.Itoa(x.Leaf)
		}
		told = append(told, text)
	}
	return strings.Join(told, "; ")
}

// toldShape: a leaf's number, or Left and Right in brackets.
func toldShape(l []impl.Twig, at int) string {
	if x := l[at]; x.Leaf < 0 {
		return "(" + toldShape(l, x.Left) + " " + toldShape(l, x.Right) + ")"
	}
	return strconv.Itoa(l[at].Leaf)
}

// refusedTwigs: nothing is hit by twigs that are not good.
func refusedTwigs(t *testing.T, l []impl.Block, twigs []impl.Twig) {
	t.Helper()
	hit, asked, ok := impl.TreeHit(l, twigs, rayOf("0 0 0|1 0 0"))
	if impl.GoodTwigs(l, twigs) || hit != (impl.Hit{}) || asked != 0 || ok {
		t.Errorf("of %v the twigs %v are taken: %v, %d, %v", briefly(l), briefly(twigs), hit, asked, ok)
	}
}

// otherNumbers: close to a number and far off, but not it.
func otherNumbers(n, count int) []int {
	l := []int{math.MinInt, -2, -1, 0, 1, 2, n - 1, n + 1, -n - 1, n ^ 1<<32, count - 1, count, math.MaxInt}
	return slices.DeleteFunc(l, func(other int) bool { return other == n })
}

// oneFieldChanged: good twigs with each field of each of them changed.
func oneFieldChanged(twigs []impl.Twig) [][]impl.Twig {
	var all [][]impl.Twig
	change := func(at int, how func(x *impl.Twig)) {
		changed := clonedTwigs(twigs)
		how(&changed[at])
		all = append(all, changed)
	}
	for at, x := range twigs {
		for which, n := range []int{x.Left, x.Right, x.Leaf} {
			for _, other := range otherNumbers(n, len(twigs)) {
				change(at, func(x *impl.Twig) { *[]*int{&x.Left, &x.Right, &x.Leaf}[which] = other })
			}
		}
		for axis := range 3 {
			for _, other := range otherNumbers(x.Box.Lo[axis], 1000) {
				change(at, func(x *impl.Twig) { x.Box.Lo[axis] = other })
			}
			for _, other := range otherNumbers(x.Box.Hi[axis], 1000) {
				change(at, func(x *impl.Twig) { x.Box.Hi[axis] = other })
			}
		}
		for _, list := range [][]int{nil, {}, x.Box.Lo[:2], append(slices.Clone(x.Box.Lo), 0)} {
			change(at, func(x *impl.Twig) { x.Box.Lo = list })
		}
		for _, list := range [][]int{nil, {}, x.Box.Hi[:2], append(slices.Clone(x.Box.Hi), 0)} {
			change(at, func(x *impl.Twig) { x.Box.Hi = list })
		}
	}
	return all
}

// heldChangedTwigs: twigs are good as they are, and not with anything changed.
func heldChangedTwigs(t *testing.T, l []impl.Block, twigs []impl.Twig) {
	t.Helper()
	if !impl.GoodTwigs(l, twigs) || !impl.GoodTwigs(l, clonedTwigs(twigs)) {
		t.Errorf("%v are not good for %v", twigs, l)
	}
	for _, changed := range oneFieldChanged(twigs) {
		refusedTwigs(t, l, changed)
	}
	for at := range twigs {
		refusedTwigs(t, l, twigs[:at])
		refusedTwigs(t, l, twigs[at+1:])
		refusedTwigs(t, l, slices.Delete(clonedTwigs(twigs), at, at+1))
		refusedTwigs(t, l, slices.Insert(clonedTwigs(twigs), at, twigs[at]))
		refusedTwigs(t, l, append(clonedTwigs(twigs), twigs[at]))
		if at > 0 {
			swapped := clonedTwigs(twigs)
			swapped[at], swapped[at-1] = swapped[at-1], swapped[at]
			refusedTwigs(t, l, swapped)
		}
	}
	refusedTwigs(t, l, nil)
	refusedTwigs(t, l, []impl.Twig{})
	refusedTwigs(t, l, append(clonedTwigs(twigs), impl.Twig{}))
	refusedTwigs(t, l, make([]impl.Twig, len(twigs)))
	refusedTwigs(t, nil, twigs)
	refusedTwigs(t, l[:len(l)-1], twigs)
	refusedTwigs(t, append(slices.Clone(l), l[0]), twigs)
}

func grows(t *testing.T, blocks, want string) {
	t.Helper()
	l := cubesOf(blocks)
	twigs, ok := heldTree(t, l)
	if got := toldTwigs(twigs); got != want || !ok {
		t.Errorf("TreeOf(%s) = %s, %v, want %s", blocks, got, ok, want)
	}
	for at, x := range twigs {
		if leaf := x.Leaf >= 0; leaf && (x.Left != -1 || x.Right != -1) || !leaf && x.Leaf != -1 {
			t.Errorf("twig %d of %s is %v", at, blocks, x)
		}
	}
	heldChangedTwigs(t, l, twigs)
}

func shaped(t *testing.T, l []impl.Block, want string) {
	t.Helper()
	twigs, ok := heldTree(t, l)
	if !ok {
		t.Fatalf("%v have no tree", l)
	}
	if got := toldShape(twigs, 0); got != want {
		t.Errorf("TreeOf(%v) is %s, want %s", l, got, want)
	}
	heldChangedTwigs(t, l, twigs)
}

func TestTreesOfFewBlocks(t *testing.T) {
	t.Parallel()
	grows(t, "1 2 3|4 5 6", "1 2 3|4 5 6 leaf 0")
	grows(t, "-1000 -1000 -1000|1000 1000 1000", "-1000 -1000 -1000|1000 1000 1000 leaf 0")
	grows(t, "5 -1 -1|6 1 1; 2 0 0|3 1 1", "2 -1 -1|6 1 1 to 1 2; 2 0 0|3 1 1 leaf 1; 5 -1 -1|6 1 1 leaf 0")
	grows(t, "2 0 0|3 1 1; 5 -1 -1|6 1 1", "2 -1 -1|6 1 1 to 1 2; 2 0 0|3 1 1 leaf 0; 5 -1 -1|6 1 1 leaf 1")
	// the first half, down
	grows(t, "0 0 0|1 1 1; 10 0 0|11 1 1; 20 0 0|21 1 1",
		"0 0 0|21 1 1 to 1 2; 0 0 0|1 1 1 leaf 0; 10 0 0|21 1 1 to 3 4; 10 0 0|11 1 1 leaf 1; 20 0 0|21 1 1 leaf 2")
	grows(t, "20 0 0|21 1 1; 10 0 0|11 1 1; 0 0 0|1 1 1",
		"0 0 0|21 1 1 to 1 2; 0 0 0|1 1 1 leaf 2; 10 0 0|21 1 1 to 3 4; 10 0 0|11 1 1 leaf 1; 20 0 0|21 1 1 leaf 0")
	// the whole tree of Left, then that of Right
	grows(t, "6 0 0|7 1 1; 4 -2 0|5 1 1; 2 0 -3|3 1 1; 0 0 0|1 4 5",
		"0 -2 -3|7 4 5 to 1 4; 0 0 -3|3 4 5 to 2 3; 2 0 -3|3 1 1 leaf 2; 0 0 0|1 4 5 leaf 3; 4 -2 0|7 1 1 to 5 6; 4 -2 0|5 1 1 leaf 1; 6 0 0|7 1 1 leaf 0")
	grows(t, "0 0 0|0 0 0; 0 0 0|0 0 0", "0 0 0|0 0 0 to 1 2; 0 0 0|0 0 0 leaf 0; 0 0 0|0 0 0 leaf 1")
}

// The least Box, by other blocks on each of its sides.
func TestBoxesAreTheLeast(t *testing.T) {
	t.Parallel()
	grows(t, "-5 0 0|0 0 0; 0 -6 0|0 0 0; 0 0 -7|0 0 0",
		"-5 -6 -7|0 0 0 to 1 2; 0 0 -7|0 0 0 leaf 2; -5 -6 0|0 0 0 to 3 4; 0 -6 0|0 0 0 leaf 1; -5 0 0|0 0 0 leaf 0")
	grows(t, "0 0 0|5 0 0; 0 0 0|0 6 0; 0 0 0|0 0 7",
		"0 0 0|5 6 7 to 1 2; 0 0 0|5 0 0 leaf 0; 0 0 0|0 6 7 to 3 4; 0 0 0|0 6 0 leaf 1; 0 0 0|0 0 7 leaf 2")
	grows(t, "-9 -9 -9|9 9 9; 1 2 3|2 3 4", "-9 -9 -9|9 9 9 to 1 2; -9 -9 -9|9 9 9 leaf 0; 1 2 3|2 3 4 leaf 1")
	grows(t, "1 2 3|2 3 4; -9 -9 -9|9 9 9", "-9 -9 -9|9 9 9 to 1 2; -9 -9 -9|9 9 9 leaf 1; 1 2 3|2 3 4 leaf 0")
}

func TestPartingAxes(t *testing.T) {
	t.Parallel()
	// each one that spreads most
	shaped(t, cubesOf("5 0 0|6 1 1; 0 4 4|1 5 5"), "(1 0)")
	shaped(t, cubesOf("0 5 0|1 6 1; 4 0 4|5 1 5"), "(1 0)")
	shaped(t, cubesOf("0 0 5|1 1 6; 4 4 0|5 5 1"), "(1 0)")
	// by one less
	shaped(t, cubesOf("5 0 5|6 1 6; 0 5 0|0 6 0"), "(1 0)")
	shaped(t, cubesOf("5 0 5|6 1 6; 0 6 0|0 6 0"), "(1 0)")
	shaped(t, cubesOf("5 0 5|6 1 6; 0 6 0|0 7 0"), "(0 1)")
	// of several the first one
	shaped(t, cubesOf("0 5 5|1 6 6; 5 0 0|6 1 1"), "(0 1)")
	shaped(t, cubesOf("5 0 0|6 1 1; 0 5 5|1 6 6"), "(1 0)")
	shaped(t, cubesOf("0 0 5|1 1 6; 0 5 0|1 6 1"), "(0 1)")
	shaped(t, cubesOf("0 5 0|1 6 1; 0 0 5|1 1 6"), "(1 0)")
	shaped(t, cubesOf("0 0 5|1 1 6; 5 0 0|6 1 1"), "(0 1)")
	// sums spread, whatever the blocks are wide: x by 0, y by 0, z by 1
	shaped(t, cubesOf("-1 -5 1|1 5 1; -9 -9 0|9 9 1"), "(1 0)")
	shaped(t, cubesOf("-900 0 0|900 1 0; -1 0 0|1 0 0"), "(1 0)")
	// the greatest less the least, not how far all lie apart
	shaped(t, cubesOf("0 0 0|0 0 0; 10 11 0|10 11 0; 10 5 0|10 5 0; 0 5 0|0 5 0"), "((0 2) (3 1))")
	// again for each twig
	shaped(t, cubesOf("0 9 0|0 9 0; 50 0 9|50 0 9; 0 0 0|0 0 0; 50 0 0|50 0 0"), "((2 0) (3 1))")
}

func TestAlikeSums(t *testing.T) {
	t.Parallel()
	shaped(t, cubesOf("0 0 0|4 4 4; 1 1 1|3 3 3; 2 2 2|2 2 2"), "(0 (1 2))")
	shaped(t, cubesOf("2 2 2|2 2 2; 0 0 0|4 4 4; 1 1 1|3 3 3"), "(0 (1 2))")
	shaped(t, slices.Repeat(inARow(1), 5), "((0 1) (2 (3 4)))")
	shaped(t, cubesOf("3 0 0|3 0 0; 0 0 0|5 0 0; 1 0 0|4 0 0; 0 0 0|0 0 0; 2 0 0|3 0 0"), "((3 1) (2 (4 0)))")
	// by number, though by another axis they stood the other way round
	shaped(t, cubesOf("102 5 0|102 5 0; 101 5 0|101 5 0; 100 50 0|100 50 0; 2 0 0|2 0 0; 1 0 0|1 0 0; 0 0 0|0 0 0"), "((5 (4 3)) (0 (1 2)))")
	shaped(t, cubesOf("0 3 3|0 3 3; 0 2 3|0 2 3; 0 1 3|0 1 3; 0 0 9|0 0 9; 50 0 0|50 0 0; 51 0 0|51 0 0; 52 0 0|52 0 0; 53 0 0|53 0 0"), "(((1 0) (2 3)) ((4 5) (6 7)))")
}

func TestTreesOfManyBlocks(t *testing.T) {
	t.Parallel()
	shaped(t, inARow(5), "((0 1) (2 (3 4)))")
	shaped(t, inARow(6), "((0 (1 2)) (3 (4 5)))")
	shaped(t, inARow(7), "((0 (1 2)) ((3 4) (5 6)))")
	shaped(t, inARow(23), "((((0 1) (2 (3 4))) ((5 (6 7)) (8 (9 10)))) (((11 (12 13)) (14 (15 16))) ((17 (18 19)) (20 (21 22)))))")
	shaped(t, inARow(24), "((((0 (1 2)) (3 (4 5))) ((6 (7 8)) (9 (10 11)))) (((12 (13 14)) (15 (16 17))) ((18 (19 20)) (21 (22 23)))))")
	turned := inARow(24)
	slices.Reverse(turned)
	shaped(t, turned, "((((23 (22 21)) (20 (19 18))) ((17 (16 15)) (14 (13 12)))) (((11 (10 9)) (8 (7 6))) ((5 (4 3)) (2 (1 0)))))")
	if got, ok := impl.TreeOf(nil); len(got) > 0 || ok {
		t.Errorf("no blocks have the tree %v, %v", got, ok)
	}
	if got, ok := impl.TreeOf([]impl.Block{}); len(got) > 0 || ok {
		t.Errorf("no blocks have the tree %v, %v", got, ok)
	}
	for count := 1; count <= 24; count++ {
		twigs, ok := heldTree(t, inARow(count))
		if len(twigs) != 2*count-1 || !ok {
			t.Errorf("%d blocks have %d twigs, %v", count, len(twigs), ok)
		}
	}
}

func TestTwigsOfOtherBlocks(t *testing.T) {
	t.Parallel()
	lists := [][]impl.Block{inARow(4), inARow(5), cubesOf("0 0 0|1 1 1"), cubesOf("0 0 0|1 1 2"), cubesOf("0 0 0|1 1 1; 0 0 0|1 1 1")}
	turned := inARow(4)
	slices.Reverse(turned)
	wider := inARow(4)
	wider[2] = cubeOf("5 0 -1|6 1 2")
	lists = append(lists, turned, wider)
	for at, l := range lists {
		for other, blocks := range lists {
			twigs, _ := impl.TreeOf(blocks)
			if got := impl.GoodTwigs(l, twigs); got != (at == other) {
				t.Errorf("GoodTwigs(%v, %v) = %v", l, twigs, got)
			}
			heldTwigs(t, l, twigs)
		}
	}
	// blocks with the same twigs, but for one's number
	one, other := cubesOf("0 0 0|1 1 1; 5 0 0|6 1 1"), cubesOf("5 0 0|6 1 1; 0 0 0|1 1 1")
	twigs, _ := impl.TreeOf(one)
	refusedTwigs(t, other, twigs)
	twigs[1].Leaf, twigs[2].Leaf = 1, 0
	if !impl.GoodTwigs(other, twigs) || impl.GoodTwigs(one, twigs) {
		t.Errorf("twigs %v", twigs)
	}
	if impl.GoodTwigs(nil, nil) || impl.GoodTwigs([]impl.Block{}, []impl.Twig{}) {
		t.Error("no twigs are those of no blocks")
	}
}

// asks: what is hit by a tree, and for how many twigs it is asked.
func asks(t *testing.T, l []impl.Block, ray, want string, wantAsked int) {
	t.Helper()
	twigs, _ := heldTree(t, l)
	r := rayOf(ray)
	hit, asked, ok := impl.TreeHit(l, twigs, r)
	if asked != wantAsked || ok != (want != "") || ok && toldHits([]impl.Hit{hit}) != want || !ok && hit != (impl.Hit{}) {
		t.Errorf("TreeHit(%v, %s) = %s, %d, %v, want %s, %d", l, ray, toldHits([]impl.Hit{hit}), asked, ok, want, wantAsked)
	}
	heldTreeHit(t, l, twigs, r)
	heldFirst(t, l, r)
}

func TestHitsOfFewTwigs(t *testing.T) {
	t.Parallel()
	one := cubesOf("2 0 0|3 1 1")
	asks(t, one, "0 0 0|3 0 0", "0 at 2/3", 1)
	asks(t, one, "2 1 0|0 0 -5", "0 at 0/1", 1)
	asks(t, one, "0 2 0|3 0 0", "", 1)
	asks(t, one, "4 0 0|3 0 0", "", 1)
	// of two both, one alone, neither, and not even the twig of both
	two := cubesOf("0 10 0|1 11 1; 10 0 0|11 1 1")
	asks(t, two, "0 0 0|1 0 0", "1 at 10/1", 3)
	asks(t, two, "0 0 0|0 1 0", "0 at 10/1", 3)
	asks(t, two, "0 11 0|10 -11 0", "0 at 0/1", 3)
	asks(t, two, "11 0 0|-10 11 0", "1 at 0/1", 3)
	asks(t, two, "5 5 0|0 0 1", "", 3)
	asks(t, two, "5 5 5|0 0 -2", "", 3)
	asks(t, two, "5 5 5|0 0 2", "", 1)
	asks(t, two, "-1 0 0|0 1 0", "", 1)
	// alike: the lesser number, whether it is asked for first or not
	asks(t, cubesOf("2 0 0|3 0 0; 2 0 0|9 0 0"), "0 0 0|1 0 0", "0 at 2/1", 3)
	asks(t, cubesOf("2 0 0|9 0 0; 2 0 0|3 0 0"), "0 0 0|1 0 0", "0 at 2/1", 3)
}

func TestTwigsThatArePassedOver(t *testing.T) {
	t.Parallel()
	// hit at a greater t
	asks(t, inARow(4), "0 0 0|1 0 0", "0 at 1/1", 5)
	asks(t, inARow(4), "10 0 0|-1 0 0", "3 at 2/1", 5)
	asks(t, inARow(4), "3 0 0|1 0 0", "1 at 0/1", 5)
	asks(t, inARow(4), "3 0 0|-1 0 0", "1 at 0/1", 5)
	asks(t, inARow(3), "0 0 0|2 0 0", "0 at 1/2", 3)
	asks(t, inARow(3), "9 0 0|-2 0 0", "2 at 3/2", 5)
	asks(t, inARow(24), "0 0 0|2 0 0", "0 at 1/2", 9)
	asks(t, inARow(24), "50 0 0|-2 0 0", "23 at 1/1", 11)
	asks(t, inARow(24), "0 2 0|2 0 0", "", 1)
	// not hit
	corners := cubesOf("0 0 0|1 1 1; 0 20 0|1 21 1; 20 0 0|21 1 1; 20 20 0|21 21 1")
	asks(t, corners, "0 -5 0|0 1 0", "0 at 5/1", 5)
	asks(t, corners, "21 26 0|0 -1 0", "3 at 5/1", 5)
	asks(t, corners, "-5 0 0|1 0 0", "0 at 5/1", 5)
	asks(t, corners, "-5 10 0|1 0 0", "", 7)
	asks(t, corners, "10 -5 0|0 1 0", "", 3)
	asks(t, corners, "0 10 0|0 0 1", "", 5)
	asks(t, corners, "-5 10 0|-1 0 0", "", 1)
	// the nearer one has no block that is hit
	asks(t, corners, "-5 19 0|25 1 0", "3 at 1/1", 7)
	asks(t, corners, "26 2 0|-25 -1 0", "0 at 1/1", 7)
}

func TestTwigsAtTheSameMoment(t *testing.T) {
	t.Parallel()
	// all at once: none is passed over, the lesser number stays, or comes to be it
	asks(t, cubesOf("2 0 0|3 9 1; 2 0 0|3 8 1; 2 0 0|3 7 1; 2 0 0|3 6 1"), "0 0 0|1 0 0", "0 at 2/1", 7)
	asks(t, cubesOf("2 0 0|3 6 1; 2 0 0|3 7 1; 2 0 0|3 8 1; 2 0 0|3 9 1"), "0 0 0|1 0 0", "0 at 2/1", 7)
	asks(t, cubesOf("2 0 0|3 7 1; 2 0 0|3 6 1; 2 0 0|3 9 1; 2 0 0|3 8 1"), "0 0 0|3 0 0", "0 at 2/3", 7)
	asks(t, cubesOf("-1 0 0|9 0 0; -1 0 0|1 0 0; -1 0 0|2 0 0; -1 0 0|3 0 0"), "0 0 0|0 1 0", "0 at 0/1", 7)
	asks(t, slices.Repeat(inARow(1), 24), "0 0 0|1 0 0", "0 at 1/1", 47)
	// by two ways to the same moment
	asks(t, cubesOf("4 0 0|9 9 9; -9 2 0|9 9 9"), "0 0 0|6 3 0", "0 at 2/3", 3)
	asks(t, cubesOf("-9 2 0|9 9 9; 4 0 0|9 9 9"), "0 0 0|6 3 0", "0 at 2/3", 3)
}

// Both twigs are hit at the same moment. One has a block that is hit then, the other one
// only blocks that are hit behind it, in a twig that is passed over once that is known.
func TestLeftIsAskedForFirst(t *testing.T) {
	t.Parallel()
	near := "2 0 -20|3 0 0; 9 0 -20|9 0 0; 9 0 -20|10 0 0"
	asks(t, cubesOf(near+"; 2 -6 0|3 -5 20; 3 0 0|4 6 20; 3 0 0|4 7 20"), "0 0 0|1 0 0", "0 at 2/1", 7)
	asks(t, cubesOf(near+"; 2 -6 0|3 -5 20; 2 0 0|4 6 20; 3 0 0|4 7 20"), "0 0 0|1 0 0", "0 at 2/1", 9)
	near = "2 0 0|3 0 20; 9 0 0|9 0 20; 9 0 0|10 0 20"
	asks(t, cubesOf(near+"; 2 -6 -20|3 -5 0; 3 0 -20|4 6 0; 3 0 -20|4 7 0"), "0 0 0|1 0 0", "0 at 2/1", 9)
	// by a hair nearer: the right one
	asks(t, cubesOf("1 0 0|3 0 20; 9 0 0|9 0 20; 9 0 0|10 0 20; 2 -6 -20|3 -5 0; 3 0 -20|4 6 0; 3 0 -20|4 7 0"), "0 0 0|1 0 0", "0 at 1/1", 5)
}
