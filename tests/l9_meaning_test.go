package tests

import (
	"math"
	"slices"
	"strings"
	"testing"

	"loop.example/g00053/impl"
)

// Runs, held against the other way.

func sameRan(a, b impl.Ran) bool {
	return sameValues(a.Buffers, b.Buffers) && a.Steps == b.Steps && a.Code == b.Code
}

func heldLaunch(t *testing.T, l []impl.Node, x impl.Launch) bool {
	t.Helper()
	got := impl.GoodLaunch(l, x)
	if want := wantLaunch(l, x); got != want {
		t.Errorf("GoodLaunch(%v, %v) = %v", l, x, got)
	}
	return got
}

// heldRun: all of chapter 9 with both orders rising; what was played.
func heldRun(t *testing.T, l []impl.Node, x impl.Launch) *play {
	t.Helper()
	heldLaunch(t, l, x)
	p := wantPlayRising(l, x)
	if got, want := impl.RunKernel(l, x), p.ran(); !sameRan(got, want) {
		t.Errorf("RunKernel(%v, %v) = %v, want %v", l, x, got, want)
	}
	heldRaces(t, l, x, p)
	names := []string{"x", "", "tid"}
	if s := seatsOf(l); s != nil {
		names = append(names, s.wantNames()...)
	}
	slices.Sort(names)
	for i, name := range slices.Compact(names) {
		last := x.Groups*x.Size - 1
		for _, tid := range []int{i % max(last+1, 1), last, last + i%2} { // a run for each, so not all
			heldWatched(t, l, x, tid, name, p)
		}
	}
	return p
}

func heldRaces(t *testing.T, l []impl.Node, x impl.Launch, p *play) {
	t.Helper()
	got, ok := impl.RacesOf(l, x)
	if want, wantOk := p.wantRaces(); !slices.Equal(got, want) || ok != wantOk {
		t.Errorf("RacesOf(%v, %v) = %v, %v, want %v, %v", l, x, got, ok, want, wantOk)
	}
}

func heldWatched(t *testing.T, l []impl.Node, x impl.Launch, tid int, name string, p *play) {
	t.Helper()
	got, ok := impl.WatchName(l, x, tid, name)
	if want, wantOk := p.wantWatched(l, tid, name); !slices.Equal(got, want) || ok != wantOk {
		t.Errorf("WatchName(%v, %v, %d, %q) = %d, %v, want %d, %v", l, x, tid, name, got, ok, want, wantOk)
	}
}

func heldOrder(t *testing.T, l []impl.Node, x impl.Launch, groups, threads []int) impl.Ran {
	t.Helper()
	got := impl.RunInOrder(l, x, groups, threads)
	if want := wantPlay(l, x, groups, threads).ran(); !sameRan(got, want) {
		t.Errorf("RunInOrder(%v, %v, %v, %v) = %v, want %v", l, x, groups, threads, got, want)
	}
	return got
}

// ranTally: what runs by chance were like, so that none of it goes untried.
type ranTally struct{ bad, long, races, calm, writes, reads, given int }

func (r *ranTally) count(p *play) {
	switch races, _ := p.wantRaces(); {
	case p.code == impl.RunBad:
		r.bad++
	case p.code == impl.RunSteps:
		r.long++
	case len(races) > 0:
		r.races++
	default:
		r.calm++
	}
	for _, h := range p.log {
		switch h.what {
		case 'w':
			r.writes++
		case 'r':
			r.reads++
		case 'g':
			r.given++
		}
	}
}

func TestRunsOfAnyKernels(t *testing.T) {
	t.Parallel()
	c := newChance(145)
	tally := ranTally{}
	for n := range 600 {
		l := c.tameKernel(5 + n%120)
		tally.count(heldRun(t, l, c.launchFor(l)))
	}
	if tally.long < 25 || tally.races < 100 || tally.calm < 200 || tally.writes < 1000 || tally.reads < 1000 || tally.given < 5000 || tally.bad > 0 {
		t.Errorf("runs: %+v", tally)
	}
}

func TestRunsOfCalmKernels(t *testing.T) {
	t.Parallel()
	c := newChance(146)
	tally := ranTally{}
	for n := range 300 {
		l := c.calmKernel(n%2 == 0, 2+n%7, n%3*4)
		tally.count(heldRun(t, l, c.calmLaunch(l, n%4 == 0)))
	}
	if tally.races < 40 || tally.calm < 150 || tally.writes < 4000 || tally.reads < 6000 {
		t.Errorf("runs: %+v", tally)
	}
}

func TestRunsOfTangledKernels(t *testing.T) {
	t.Parallel()
	c := newChance(147)
	tally := ranTally{}
	for n := range 250 {
		l := c.tangled(1+n%len(linkNames), 3+n%20)
		tally.count(heldRun(t, l, c.launchFor(l)))
	}
	if tally.races < 25 || tally.calm < 100 || tally.given < 10000 {
		t.Errorf("runs: %+v", tally)
	}
}

// Numbers, bools and places as they come, of any size.
func TestRunsOfWildKernels(t *testing.T) {
	t.Parallel()
	c := newChance(148)
	for n := range 500 {
		l := c.kernelWithTypes(n%60, 0).nodes()
		heldRun(t, l, c.launchFor(l))
	}
}

func TestRunsInAnyOrder(t *testing.T) {
	t.Parallel()
	c := newChance(149)
	unlike := 0
	for n := range 500 {
		l := c.tameKernel(5 + n%120)
		if n%3 == 0 {
			l = c.calmKernel(n%2 == 0, 4, 4)
		}
		x := c.launchFor(l)
		rising := impl.RunKernel(l, x)
		for range 4 {
			if got := heldOrder(t, l, x, c.Perm(x.Groups), c.Perm(x.Size)); !sameRan(got, rising) {
				unlike++
			}
		}
		if got := heldOrder(t, l, x, upTo(x.Groups), upTo(x.Size)); !sameRan(got, rising) {
			t.Errorf("RunInOrder of %v, %v with rising orders: %v, want %v", l, x, got, rising)
		}
	}
	if unlike < 100 {
		t.Errorf("only %d orders leave anything else", unlike)
	}
}

// Launches with one thing changed.
func TestLaunchesByChance(t *testing.T) {
	t.Parallel()
	c := newChance(150)
	good := 0
	for n := range 3000 {
		l := c.kernelWithTypes(n%20, n%2*50).nodes()
		x := c.launchFor(l)
		switch c.Intn(9) {
		case 0:
			x.Groups = wrongInts[c.Intn(len(wrongInts))]
		case 1:
			x.Size = wrongInts[c.Intn(len(wrongInts))]
		case 2:
			x.Words = c.words(c.Intn(5))
		case 3:
			x.Buffers = x.Buffers[:c.Intn(1+len(x.Buffers))]
		case 4:
			x.Buffers = append(x.Buffers, nil)
		case 5:
			if len(x.Buffers) > 0 {
				x.Buffers[c.Intn(len(x.Buffers))] = c.words(60 + c.Intn(10))
			}
		}
		if heldLaunch(t, l, x) {
			good++
		} else {
			badRun(t, l, x)
		}
	}
	if good < 500 || good > 2500 {
		t.Errorf("%d launches are good", good)
	}
}

// badRun: all of chapter 9 where something is not as said.
func badRun(t *testing.T, l []impl.Node, x impl.Launch) {
	t.Helper()
	if impl.GoodLaunch(l, x) {
		t.Errorf("GoodLaunch(%v, %v)", l, x)
	}
	bad := impl.Ran{Code: impl.RunBad}
	if got := impl.RunKernel(l, x); !sameRan(got, bad) {
		t.Errorf("RunKernel(%v, %v) = %v", l, x, got)
	}
	if got := impl.RunInOrder(l, x, upTo(min(max(x.Groups, 0), 9)), upTo(min(max(x.Size, 0), 9))); !sameRan(got, bad) {
		t.Errorf("RunInOrder(%v, %v) = %v", l, x, got)
	}
	noRacesNorWords(t, l, x)
}

// noRacesNorWords: what is told of a run with a code.
func noRacesNorWords(t *testing.T, l []impl.Node, x impl.Launch) {
	t.Helper()
	if got, ok := impl.RacesOf(l, x); len(got) > 0 || ok {
		t.Errorf("RacesOf(%v, %v) = %v, %v", l, x, got, ok)
	}
	for _, name := range append(impl.NamesOf(l), "x", "i") {
		for _, tid := range []int{0, 1, -1, math.MinInt64, math.MaxInt64} {
			if got, ok := impl.WatchName(l, x, tid, name); len(got) > 0 || ok {
				t.Errorf("WatchName(%v, %v, %d, %q) = %d, %v", l, x, tid, name, got, ok)
			}
		}
	}
}

// Every operation at operands of every row of types, in a thread.
func TestThreadsReckonEveryOperation(t *testing.T) {
	t.Parallel()
	c := newChance(151)
	forms := map[rune][]string{
		'i': {"n", "a [ 1 ]", "tid ( )", "- 7"},
		'f': {"f", "b [ 1 ]", "0.5"},
		'b': {"p", "true"},
	}
	for _, text := range slices.Concat(betweenSigns, wantCalls, []string{"-", "!"}) {
		count := 2
		if isCall(text) {
			count = wantArity[text]
		} else if text == "!" {
			count = 1
		}
		for _, letters := range append(operandLetters(count), operandLetters(1)...) {
			if wantOutcome(text, letters) == '-' {
				continue
			}
			for range 6 {
				var operands []string
				for _, letter := range letters {
					operands = append(operands, forms[letter][c.Intn(len(forms[letter]))])
				}
				expr := operationText(text, operands)
				if len(operands) == 1 && !isCall(text) {
					expr = text + " " + operands[0]
				}
				l := impl.ReadKernel(given("let p = n < 3 ; let x = " + expr + " ; if x == x { a [ 0 ] = 1 ; } let y = ! ! ( x != x ) ;")).Nodes
				if wantTyped(l).Code != 0 {
					t.Fatalf("%q has no types", expr)
				}
				heldRun(t, l, impl.Launch{Groups: 1, Size: 2, Words: c.words(2), Buffers: [][]uint32{c.words(3), c.words(2)}})
			}
		}
	}
}

// Steps of drawn loops, around as many as there may be.
func TestRunsNearTheLastStep(t *testing.T) {
	t.Parallel()
	c := newChance(152)
	codes := [3]int{}
	for n := range 100 {
		x := impl.Launch{Groups: 1 + c.Intn(4), Size: 1 + c.Intn(8), Words: []uint32{0, 0}, Buffers: [][]uint32{make([]uint32, 4), nil}}
		body := [...]string{"", "a [ 0 ] = i ;", "if i % 2 == 0 { let x = 1 ; }", "if i == 3 { let y = i ; } else { let x = 1 ; x = 2 ; }", "for j in 0 .. 2 { }"}[n%5]
		l := impl.ReadKernel(given("for i in 0 .. n + tid ( ) % 2 { " + body + " } barrier ; let z = 1 ;")).Nodes
		low, high := uint32(0), uint32(4001) // as many turns as may be, found by halves
		for low+1 < high {
			x.Words[0] = (low + high) / 2
			if impl.RunKernel(l, x).Code == 0 {
				low = x.Words[0]
			} else {
				high = x.Words[0]
			}
		}
		for _, n := range []uint32{low, high, high + 1} {
			x.Words[0] = n
			codes[heldRun(t, l, x).code]++
		}
	}
	if codes[0] != 100 || codes[impl.RunSteps] != 200 {
		t.Errorf("codes: %v", codes)
	}
}

// Texts that are no name of a kernel's, and tids that are none.
func TestWatchingByChance(t *testing.T) {
	t.Parallel()
	c := newChance(153)
	for n := range 300 {
		l := c.tameKernel(5 + n%60)
		x := c.launchFor(l)
		p := wantPlayRising(l, x)
		names := slices.Concat(notNames, impl.NamesOf(l), strings.Fields("a b c d e f g h größe k aa x_1"))
		tids := append(slices.Clone(wrongInts), x.Groups*x.Size-1, x.Groups*x.Size)
		for range 40 {
			heldWatched(t, l, x, tids[c.Intn(len(tids))], names[c.Intn(len(names))], p)
		}
	}
}
