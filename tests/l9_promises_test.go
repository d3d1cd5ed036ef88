package tests

import (
	"math"
	"slices"
	"strings"
	"testing"

	"loop.example/g00053/impl"
)

// sameDoing: two kernels leave the same by as many steps, in an order, too, and
// what races and what each name is given is the same.
func sameDoing(t *testing.T, c chance, l, folded []impl.Node, x impl.Launch) impl.Ran {
	t.Helper()
	got, want := impl.RunKernel(folded, x), impl.RunKernel(l, x)
	if !sameRan(got, want) {
		t.Errorf("%v with %v leaves %v, folded %v", l, x, want, got)
	}
	groups, threads := c.Perm(x.Groups), c.Perm(x.Size)
	if got, want := impl.RunInOrder(folded, x, groups, threads), impl.RunInOrder(l, x, groups, threads); !sameRan(got, want) {
		t.Errorf("%v with %v by %v, %v leaves %v, folded %v", l, x, groups, threads, want, got)
	}
	if got, want := toldRaces(impl.RacesOf(folded, x)), toldRaces(impl.RacesOf(l, x)); got != want {
		t.Errorf("%v with %v races at %s, folded at %s", l, x, want, got)
	}
	for _, name := range impl.NamesOf(l) {
		tid := c.Intn(x.Groups * x.Size)
		got, ok := impl.WatchName(folded, x, tid, name)
		if want, wantOk := impl.WatchName(l, x, tid, name); !slices.Equal(got, want) || ok != wantOk {
			t.Errorf("%q of %v with %v is %v, folded %v", name, l, x, want, got)
		}
	}
	return want
}

// Promise 6: a folded kernel does the same, by as many steps.
func TestPromise6FoldedKernelsDoTheSame(t *testing.T) {
	t.Parallel()
	c := newChance(154)
	changed, codes := 0, [3]int{}
	for n := range 900 {
		var l []impl.Node
		switch n % 3 {
		case 0:
			l = c.kernelWithConsts(5 + n%80)
		case 1:
			l = c.withConsts(c.tameKernel(5 + n%80))
		default:
			l = c.withConsts(c.calmKernel(n%2 == 0, 4, 4))
		}
		if !wantGood(l) {
			continue
		}
		folded, ok := impl.FoldKernel(l)
		if !ok {
			t.Fatalf("FoldKernel(%v)", l)
		}
		if !slices.Equal(folded, l) {
			changed++
		}
		ran := sameDoing(t, c, l, folded, c.launchFor(l))
		codes[ran.Code]++
	}
	if changed < 400 || codes[0] < 400 || codes[impl.RunSteps] < 15 || codes[impl.RunBad] > 0 {
		t.Errorf("%d kernels are changed, codes %v", changed, codes)
	}
}

// Promise 6: edges of what is folded, where it is written down, counted by or
// chosen by.
func TestPromise6FoldedEdges(t *testing.T) {
	t.Parallel()
	c := newChance(155)
	for _, text := range []string{"1 + 2", "3 - 8", "0 - 2147483647 - 1", "- ( 0 - 2147483647 - 1 )", "7 / 0", "- 7 % 3", "1 << 33", "abs ( - 5 )", "int ( 2.5 )", "int ( 999999999.0 * 10 )", "min ( 2 , - 2 ) - - 3", "- 0", "2147483647 + 1", "- - 2", "( 1 + 1 ) * tid ( ) + ( 2 - 2 )"} {
		for _, form := range []string{"a [ 0 ] = # ;", "a [ # ] = 7 ;", "b [ 1 ] = # ;", "let x = 0.5 ; x = # ; b [ 0 ] = x / 2 ;", "for i in # .. ( # ) + 2 { a [ i ] = i ; }", "if # < 2 && 1 == 1 { a [ 1 ] = 1 ; } else { a [ 2 ] = 1 ; }", "a [ 3 ] = a [ ( # ) - 1 ] ;", "b [ 2 ] = fma ( # , 1.5 , f ) ;"} {
			l := kernelWith(t, given(strings.ReplaceAll(form, "#", text)))
			folded, _ := impl.FoldKernel(l)
			sameDoing(t, c, l, folded, around(2, 2, 1, 2, 3, 4))
		}
	}
}

// isCalm: whether a run has no code and no races.
func isCalm(l []impl.Node, x impl.Launch) bool {
	races, ok := impl.RacesOf(l, x)
	return ok && len(races) == 0
}

// sameInGroups: the names that do not vary take the same values in all threads of
// a group; how many values they took.
func sameInGroups(t *testing.T, l []impl.Node, x impl.Launch) int {
	t.Helper()
	taken := 0
	varying := impl.VaryingNames(l)
	names := slices.Sorted(slices.Values(impl.NamesOf(l)))
	for _, name := range slices.Compact(names) {
		if slices.Contains(varying, name) {
			continue
		}
		for group := range x.Groups {
			first, _ := impl.WatchName(l, x, group*x.Size, name)
			taken += len(first)
			for local := 1; local < x.Size; local++ {
				if got, ok := impl.WatchName(l, x, group*x.Size+local, name); !slices.Equal(got, first) || !ok {
					t.Errorf("%q of %v with %v does not vary, but is %v in thread 0 of group %d, %v in thread %d", name, l, x, first, group, got, local)
				}
			}
		}
	}
	return taken
}

// Promise 8: in a run without races a name that does not vary takes the same
// values in all threads of a group.
func TestPromise8WhatDoesNotVaryIsTheSame(t *testing.T) {
	t.Parallel()
	c := newChance(156)
	runs, taken, loads := 0, 0, 0
	for n := range 600 {
		var l []impl.Node
		var x impl.Launch
		switch n % 3 {
		case 0:
			l = c.quiet(c.tameKernel(5+n%80), 1+n%9)
			x = c.launchFor(l)
		case 1:
			l = c.calmKernel(true, 3+n%12, 0)
			x = c.calmLaunch(l, true)
		default:
			l = c.calmKernel(false, 3+n%12, n%2*6)
			x = c.calmLaunch(l, false)
		}
		if !isCalm(l, x) {
			continue
		}
		runs++
		taken += sameInGroups(t, l, x)
		if slices.ContainsFunc(l, func(node impl.Node) bool { return node.Kind == impl.NLoad }) && slices.ContainsFunc(l, func(node impl.Node) bool { return node.Kind == impl.NStore }) {
			loads++
		}
	}
	if runs < 350 || taken < 2000 || loads < 200 {
		t.Errorf("%d runs without races, %d of them load and store, %d values", runs, loads, taken)
	}
}

// Promise 8: what all threads read behind a barrier, in conditions, bounds and
// places.
func TestPromise8ReadBehindABarrier(t *testing.T) {
	t.Parallel()
	x := around(1, 4, 3, 1, 2, 0)
	for _, statements := range []string{
		"a [ tid ( ) ] = tid ( ) * 3 ; barrier ; let x = a [ 1 ] + a [ 2 ] ; let y = a [ x - 7 ] ;",
		"a [ 3 - tid ( ) ] = tid ( ) ; barrier ; for i in 0 .. a [ 0 ] { let x = a [ i ] ; if x > 1 { let y = x * i ; } }",
		"b [ tid ( ) ] = tid ( ) + f ; barrier ; let x = b [ 1 ] ; if x > 2 { x = b [ 2 ] ; } barrier ; b [ tid ( ) ] = x ;",
		"let x = a [ 0 ] ; barrier ; a [ tid ( ) ] = x + tid ( ) ; barrier ; x = a [ 3 ] ; let y = a [ a [ 9 ] ] ;",
	} {
		l := kernelWith(t, given(statements))
		if !isCalm(l, x) || sameInGroups(t, l, x) == 0 {
			t.Errorf("%q races, or no name takes a value", statements)
		}
	}
	// where threads race it may be otherwise: this is what the promise leaves out
	l := kernelWith(t, given("a [ 0 ] = a [ 0 ] + 1 ; let x = a [ 0 ] ;"))
	first, _ := impl.WatchName(l, x, 0, "x")
	second, _ := impl.WatchName(l, x, 1, "x")
	if isCalm(l, x) || slices.Equal(first, second) || len(impl.VaryingNames(l)) > 0 {
		t.Errorf("a race that shows: %v, %v", first, second)
	}
}

// sameInEveryOrder: a run leaves the same in drawn orders of groups and threads,
// by as many steps.
func sameInEveryOrder(t *testing.T, c chance, l []impl.Node, x impl.Launch) impl.Ran {
	t.Helper()
	want := impl.RunKernel(l, x)
	orders := [][2][]int{{upTo(x.Groups), upTo(x.Size)}, {turnedRound(x.Groups), turnedRound(x.Size)}}
	for range 4 {
		orders = append(orders, [2][]int{c.Perm(x.Groups), c.Perm(x.Size)})
	}
	for _, order := range orders {
		if got := impl.RunInOrder(l, x, order[0], order[1]); !sameRan(got, want) {
			t.Errorf("%v with %v by %v leaves %v, want %v", l, x, order, got, want)
		}
	}
	return want
}

func turnedRound(n int) []int {
	l := upTo(n)
	slices.Reverse(l)
	return l
}

// Promise 9: what has no races leaves the same in every order.
func TestPromise9NoRacesNoOrder(t *testing.T) {
	t.Parallel()
	c := newChance(157)
	runs, changed, threads := 0, 0, 0
	for n := range 1500 {
		var l []impl.Node
		var x impl.Launch
		switch n % 3 {
		case 0:
			l = c.tameKernel(5 + n%80)
			x = c.launchFor(l)
		default:
			one := n%2 == 0
			l = c.calmKernel(one, 2+n%5, n%3*n%10)
			x = c.calmLaunch(l, one)
		}
		if !isCalm(l, x) {
			continue
		}
		runs++
		if got := sameInEveryOrder(t, c, l, x); !sameValues(got.Buffers, x.Buffers) {
			changed++
			if x.Groups*x.Size > 4 {
				threads++
			}
		}
	}
	if runs < 900 || changed < 500 || threads < 300 {
		t.Errorf("%d runs without races, %d change a buffer, %d of them with many threads", runs, changed, threads)
	}
}

// Promise 9: every order of a few groups and threads.
func TestPromise9EveryOrder(t *testing.T) {
	t.Parallel()
	orders := func(n int) [][]int {
		l := [][]int{{}}
		for i := range n {
			var longer [][]int
			for _, order := range l {
				for at := range len(order) + 1 {
					longer = append(longer, slices.Insert(slices.Clone(order), at, i))
				}
			}
			l = longer
		}
		return l
	}
	for _, statements := range []string{
		"a [ tid ( ) ] = a [ tid ( ) ] * 7 + tid ( ) ; barrier ; a [ tid ( ) ] = a [ tid ( ) ] + 1 ;",
		"let x = n ; for i in 0 .. tid ( ) { x = x * 3 + int ( b [ i ] ) ; } a [ tid ( ) ] = x ;",
		"let x = a [ tid ( ) ] ; barrier ; if local ( ) == 1 { a [ tid ( ) ] = x + 1 ; } barrier ; x = a [ tid ( ) ] + local ( ) ; a [ tid ( ) ] = x ;",
		"a [ group ( ) * size ( ) + ( local ( ) + 1 ) % size ( ) ] = local ( ) ; barrier ; let x = a [ tid ( ) ] ; barrier ; a [ group ( ) * size ( ) + ( local ( ) + 2 ) % size ( ) ] = x * 10 + local ( ) ;",
	} {
		l := kernelWith(t, given(statements))
		x := around(3, 4, slices.Repeat([]int{4, 5}, 6)...)
		if !isCalm(l, x) {
			t.Fatalf("%q races", statements)
		}
		want := impl.RunKernel(l, x)
		for _, groups := range orders(3) {
			for _, threads := range orders(4) {
				if got := impl.RunInOrder(l, x, groups, threads); !sameRan(got, want) {
					t.Errorf("%q by %v, %v leaves %v, want %v", statements, groups, threads, got, want)
				}
			}
		}
	}
}

// Promise 9: where an order leaves something else two threads race.
func TestPromise9WhatOrdersShowIsARace(t *testing.T) {
	t.Parallel()
	c := newChance(158)
	shown := 0
	for n := range 600 {
		l := c.tameKernel(10 + n%80)
		if n%2 == 0 {
			l = c.calmKernel(n%4 == 0, 3, 2)
		}
		x := c.launchFor(l)
		want := impl.RunKernel(l, x)
		for range 3 {
			if got := impl.RunInOrder(l, x, c.Perm(x.Groups), c.Perm(x.Size)); want.Code == 0 && !sameRan(got, want) {
				shown++
				if isCalm(l, x) {
					t.Errorf("%v with %v leaves %v, or %v, without a race", l, x, want, got)
				}
			}
		}
	}
	if shown < 100 {
		t.Errorf("only %d orders leave something else", shown)
	}
}

// Promise 25: lists that are no kernel with types.
func TestPromise25RunsOfNoKernels(t *testing.T) {
	t.Parallel()
	l := impl.ReadKernel(typedAll).Nodes
	x := around(2, 2, 1, 2, 3, 4)
	if p := heldRun(t, l, x); p.code != 0 {
		t.Fatalf("code %d", p.code)
	}
	for at := range l {
		badRun(t, l[:at], x)
		if at > 0 {
			badRun(t, l[at:], x)
		}
		badRun(t, append(slices.Clone(l), l[at:]...), x)
		for _, n := range wrongInts {
			k := slices.Clone(l)
			k[at].Kids = n
			if n != l[at].Kids {
				badRun(t, k, x)
			}
			k[at] = impl.Node{Kind: n, Text: l[at].Text, Kids: l[at].Kids}
			heldRun(t, k, x)
		}
		for _, text := range []string{"", "x", "y", "p", "i", "n", "a", "0", "1", "1.5", "true", "tid", "-", "+", "<", "\xff"} {
			k := slices.Clone(l)
			k[at].Text = text
			heldRun(t, k, x)
		}
	}
	for _, n := range []int{251, 100000} {
		badRun(t, slices.Repeat(nodesOf("9 x 1, 8 tid 0"), n), launchOf(0))
		badRun(t, slices.Repeat(nodesOf("16 k 1"), n), launchOf(0))
		badRun(t, slices.Repeat(nodesOf("17 n 0"), n), launchOf(n))
	}
}

// Promise 25: launches that are not as said, and orders and names of any kind.
func TestPromise25AnyLaunches(t *testing.T) {
	t.Parallel()
	l := kernelWith(t, given("let x = tid ( ) ; a [ x ] = x ; b [ x ] = f ;"))
	for _, x := range []impl.Launch{
		{}, {Groups: 1, Size: 1}, {Groups: 1, Size: 1, Words: []uint32{1, 2}}, {Groups: 1, Size: 1, Buffers: [][]uint32{{}, {}}},
		{Groups: 1, Size: 1, Words: []uint32{1, 2}, Buffers: [][]uint32{nil}}, {Groups: 1, Size: 1, Words: []uint32{1, 2}, Buffers: [][]uint32{nil, nil, nil}},
		{Groups: 1, Size: 1, Words: make([]uint32, 100000), Buffers: [][]uint32{nil, nil}}, {Groups: 1, Size: 1, Words: []uint32{1, 2}, Buffers: make([][]uint32, 100000)},
		{Groups: 1, Size: 1, Words: []uint32{1, 2}, Buffers: [][]uint32{nil, make([]uint32, 1000000)}},
		{Groups: math.MaxInt64, Size: math.MaxInt64, Words: []uint32{1, 2}, Buffers: [][]uint32{nil, nil}},
		{Groups: math.MinInt64, Size: math.MinInt64, Words: []uint32{1, 2}, Buffers: [][]uint32{nil, nil}},
		{Groups: 1 << 32, Size: 1 << 32, Words: []uint32{1, 2}, Buffers: [][]uint32{nil, nil}},
		{Groups: -1, Size: -1, Words: []uint32{1, 2}, Buffers: [][]uint32{nil, nil}},
	} {
		badRun(t, l, x)
		badRun(t, nil, x)
	}
	x := impl.Launch{Groups: 2, Size: 2, Words: []uint32{1, 2}, Buffers: [][]uint32{nil, nil}}
	if got := impl.RunKernel(l, x); got.Code != 0 || got.Steps != 12 || len(got.Buffers) != 2 || len(got.Buffers[0])+len(got.Buffers[1]) > 0 {
		t.Errorf("nil as buffers: %v", got)
	}
	heldRun(t, l, x)
	c := newChance(159)
	for range 3000 {
		groups, threads := c.Perm(2), c.Perm(2)
		for _, order := range []*[]int{&groups, &threads} {
			switch c.Intn(5) {
			case 0:
				(*order)[c.Intn(2)] = wrongInts[c.Intn(len(wrongInts))]
			case 1:
				*order = (*order)[:c.Intn(2)]
			case 2:
				*order = append(*order, c.Intn(3))
			}
		}
		heldOrder(t, l, x, groups, threads)
	}
	for _, name := range slices.Concat(wrongTexts, brokenRunes, wholeRunes, notTokens(), []string{"x\x00", strings.Repeat("x", 1<<20)}) {
		for _, tid := range wrongInts {
			heldWatched(t, l, x, tid, name, wantPlayRising(l, x))
		}
	}
}

// Promise 25: nodes of any sort with launches for as many parameters as stand in
// them.
func TestPromise25RunsOfAnyNodes(t *testing.T) {
	t.Parallel()
	c := newChance(160)
	some := func(n int) int {
		if c.Intn(3) == 0 {
			return wrongInts[c.Intn(len(wrongInts))]
		}
		return c.Intn(n)
	}
	for n := range 1500 {
		l := make([]impl.Node, c.Intn(1+n%300))
		for i := range l {
			l[i] = impl.Node{Kind: some(22), Text: wrongTexts[c.Intn(len(wrongTexts))], Kids: some(4)}
		}
		heldRun(t, l, c.launchFor(l))
		if len(l) > 1 {
			l[0], l[1] = impl.Node{Kind: impl.NKernel, Text: "k", Kids: 1}, impl.Node{Kind: impl.NBlock, Kids: some(9)}
		}
		heldRun(t, l, c.launchFor(l))
	}
}

// keptLaunch: a launch whose lists have as much again behind them.
func keptLaunch(x impl.Launch) impl.Launch {
	kept := impl.Launch{Groups: x.Groups, Size: x.Size, Words: behind(x.Words), Buffers: behind(x.Buffers)}
	for i := range kept.Buffers {
		kept.Buffers[i] = behind(x.Buffers[i])
	}
	return kept
}

// launchUnchanged: whether a launch that was kept is as it was, with what lies
// behind its lists.
func launchUnchanged(kept, x impl.Launch) bool {
	for i, buffer := range kept.Buffers {
		if !unchanged(buffer, x.Buffers[i]) {
			return false
		}
	}
	behindAll := kept.Buffers[:2*len(kept.Buffers)]
	return len(kept.Buffers) == len(x.Buffers) && sameValues(behindAll[len(x.Buffers):], x.Buffers) && unchanged(kept.Words, x.Words) && kept.Groups == x.Groups && kept.Size == x.Size
}

// Promise 25: nothing is written into nodes, launches and orders, and no answer
// shares their memory.
func TestPromise25LaunchesAreKept(t *testing.T) {
	t.Parallel()
	c := newChance(161)
	for n := range 300 {
		l := c.tameKernel(5 + n%60)
		x := c.launchFor(l)
		name := append(impl.NamesOf(l), "x")[0]
		ask := func(l []impl.Node, x impl.Launch) []uint32 {
			ran := impl.RunInOrder(l, x, turnedRound(x.Groups), turnedRound(x.Size))
			rising := impl.RunKernel(l, x)
			words, ok := impl.WatchName(l, x, x.Groups*x.Size-1, name)
			races, calm := impl.RacesOf(l, x)
			out := slices.Concat(flat(ran.Buffers), flat(rising.Buffers), words, wholes(ran.Steps, ran.Code, rising.Steps, rising.Code, int(wordOf(ok)), int(wordOf(calm)), int(wordOf(impl.GoodLaunch(l, x)))))
			for _, r := range races {
				out = append(out, wholes(r.Buffer, r.Place, r.A, r.B)...)
			}
			return out
		}
		apartFrom(t, "chapter 9", l, func(l []impl.Node) []uint32 { return ask(l, x) })
		kept := keptLaunch(x)
		ask(l, kept)
		if !launchUnchanged(kept, x) {
			t.Errorf("a launch of %v is changed", l)
		}
		apartFrom(t, "RunInOrder", c.Perm(x.Groups), func(groups []int) []uint32 {
			return flat(impl.RunInOrder(l, x, groups, upTo(x.Size)).Buffers)
		})
		apartFrom(t, "RunInOrder", c.Perm(x.Size), func(threads []int) []uint32 {
			return flat(impl.RunInOrder(l, x, upTo(x.Groups), threads).Buffers)
		})
		apartFrom(t, "WatchName", l, func(l []impl.Node) []uint32 { words, _ := impl.WatchName(l, x, 0, name); return words })
		apartFrom(t, "RacesOf", l, func(l []impl.Node) []impl.Race { races, _ := impl.RacesOf(l, x); return races })
		apartFrom(t, "WatchName", x.Words, func(words []uint32) []uint32 {
			y := x
			y.Words = words
			given, _ := impl.WatchName(l, y, 0, name)
			return given
		})
	}
}

// overwrite: writes into all memory of lists, behind their length, too.
func overwrite(l [][]uint32) {
	for _, words := range l {
		for i := range words[:cap(words)] {
			words[:cap(words)][i] ^= math.MaxUint32
		}
	}
}

// newBuffersOf: no buffer that a run answers shares its memory with one that was
// given, with another one of the answer, or with one of another answer.
func newBuffersOf(t *testing.T, x impl.Launch, run func(impl.Launch) impl.Ran) {
	t.Helper()
	kept := keptLaunch(x)
	want, got, again := run(x), run(kept), run(kept)
	for i := range got.Buffers {
		others := slices.Concat(got.Buffers[:i], got.Buffers[i+1:])
		was := flat(others)
		overwrite(got.Buffers[i : i+1])
		if !slices.Equal(flat(others), was) {
			t.Errorf("buffer %d of what %v leaves shares its memory with another one", i, x)
		}
	}
	clear(got.Buffers[:cap(got.Buffers)])
	if !sameRan(again, want) || !launchUnchanged(kept, x) {
		t.Errorf("what %v leaves shares its memory", x)
	}
	if third := run(kept); !sameRan(third, want) {
		t.Errorf("%v leaves %v, and then %v", x, want, third)
	}
	overwrite(kept.Buffers)
	if !sameRan(again, want) {
		t.Errorf("what %v leaves is that which was given", x)
	}
}

// Promise 25: buffers that are answered are new memory.
func TestPromise25NewBuffers(t *testing.T) {
	t.Parallel()
	c := newChance(162)
	for n := range 200 {
		l := c.calmKernel(n%2 == 0, 3, 4)
		x := c.calmLaunch(l, n%3 == 0)
		if n%4 == 0 { // all buffers are one list: what is answered is not
			x.Buffers = [][]uint32{x.Buffers[0], x.Buffers[0], x.Buffers[0], x.Buffers[0]}
		}
		for _, run := range []func(impl.Launch) impl.Ran{
			func(x impl.Launch) impl.Ran { return impl.RunKernel(l, x) },
			func(x impl.Launch) impl.Ran { return impl.RunInOrder(l, x, upTo(x.Groups), upTo(x.Size)) },
		} {
			newBuffersOf(t, x, run)
		}
	}
	empty := make([]uint32, 3)
	x := impl.Launch{Groups: 1, Size: 1, Words: []uint32{0, 0}, Buffers: [][]uint32{empty[:0], empty[:1]}}
	got := impl.RunKernel(kernelWith(t, given("a [ 0 ] = 5 ; b [ 0 ] = 5 ; b [ 1 ] = 5 ;")), x)
	overwrite(got.Buffers)
	if !slices.Equal(empty, make([]uint32, 3)) || len(got.Buffers[0]) != 0 || len(got.Buffers[1]) != 1 {
		t.Errorf("buffers of %v with something behind: %v", got, empty)
	}
}

// Promise 25: what lies behind the lengths of lists is not looked at.
func TestPromise25BehindLaunches(t *testing.T) {
	t.Parallel()
	c := newChance(163)
	for n := range 200 {
		l := c.tameKernel(5 + n%60)
		x := c.launchFor(l)
		kept := keptLaunch(x)
		for i := range kept.Words {
			kept.Words[:2*len(x.Words)][len(x.Words)+i] = c.Uint32()
		}
		for _, buffer := range kept.Buffers {
			for i := range buffer {
				buffer[:2*len(buffer)][len(buffer)+i] = c.Uint32()
			}
		}
		if got, want := impl.RunKernel(behind(l), kept), impl.RunKernel(l, x); !sameRan(got, want) {
			t.Errorf("%v leaves %v, with something behind %v", l, want, got)
		}
		if got, want := toldRaces(impl.RacesOf(behind(l), kept)), toldRaces(impl.RacesOf(l, x)); got != want {
			t.Errorf("%v races at %s, with something behind at %s", l, want, got)
		}
		groups, threads := behind(turnedRound(x.Groups)), behind(turnedRound(x.Size))
		heldOrder(t, l, kept, groups, threads)
	}
}

// Promise 25: answers hang on what is given alone, whatever was asked between.
func TestPromise25RunsAgain(t *testing.T) {
	t.Parallel()
	c := newChance(164)
	for n := range 100 {
		l := c.tameKernel(10 + n%80)
		x := c.launchFor(l)
		first := impl.RunKernel(l, x)
		races := toldRaces(impl.RacesOf(l, x))
		for range 4 {
			other := c.tameKernel(20)
			y := c.launchFor(other)
			impl.RunKernel(other, y)
			impl.RacesOf(other, y)
			impl.RunKernel(l, around(9, 9))
			if got := impl.RunKernel(newTexts(l), keptLaunch(x)); !sameRan(got, first) {
				t.Errorf("%v leaves %v, and then %v", l, first, got)
			}
			if got := toldRaces(impl.RacesOf(newTexts(l), keptLaunch(x))); got != races {
				t.Errorf("%v races at %s, and then at %s", l, races, got)
			}
		}
	}
}
