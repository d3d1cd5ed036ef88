package tests

import (
	"math"
	"runtime"
	"slices"
	"testing"
	"time"

	"loop.example/g00053/impl"
)

// byChance: one order of playing.
func (p *plan) byChance(c chance) [][2]int {
	return p.play(func(nexts [][2]int) [2]int { return nexts[c.Intn(len(nexts))] })
}

// without: what is done if one is put off for as long as there is another one.
func (p *plan) without(at [2]int) [][2]int {
	var done [][2]int
	for {
		nexts := slices.DeleteFunc(p.nexts(done), func(other [2]int) bool { return other == at })
		if len(nexts) == 0 {
			return done
		}
		done = append(done, nexts[len(nexts)-1])
	}
}

// statesAfter: of all things.
func statesAfter(l []impl.Command) [8]int {
	var states [8]int
	for number := range states {
		states[number] = stateAhead(l, len(l), number)
	}
	return states
}

// noFaultIn: an order of playing of queues that were taken leaves no fault, and the
// same states, and what is ahead by AheadOf is done ahead.
func noFaultIn(t *testing.T, p *plan, order [][2]int, states [8]int) {
	t.Helper()
	l := p.inOrder(order)
	if v := impl.CheckList(l); v != (impl.Verdict{}) || len(l) != len(p.all) {
		t.Errorf("%s, played as %v, has the fault %v", toldQueues(p.queues), order, v)
	}
	if statesAfter(l) != states {
		t.Errorf("%s, played as %v, leaves %v, otherwise %v", toldQueues(p.queues), order, statesAfter(l), states)
	}
	for at, first := range order {
		for _, other := range order[:at] {
			if impl.AheadOf(p.queues, first[:], other[:]) {
				t.Errorf("%s, played as %v: %v is ahead of %v", toldQueues(p.queues), order, first, other)
			}
		}
	}
}

// playedStates: of the order in which PlayQueues does it.
func playedStates(t *testing.T, p *plan) [8]int {
	t.Helper()
	pairs, all := impl.PlayQueues(p.queues)
	order := pairsOf(pairs)
	if !all || len(order) != len(p.all) {
		t.Fatalf("%s is taken, but not all is done", toldQueues(p.queues))
	}
	states := statesAfter(p.inOrder(order))
	noFaultIn(t, p, order, states)
	return states
}

// Promise 19: what is taken has no fault in orders by chance.
func TestPromise19NoFaultInAnyOrder(t *testing.T) {
	t.Parallel()
	c := newChance(371)
	taken, sides := 0, 0
	for n := range 6000 {
		p := planOf(c.someQueues(n))
		if impl.CheckQueues(p.queues) != (impl.Verdict{}) || len(p.all) > 60 {
			continue
		}
		taken++
		states := playedStates(t, p)
		first := p.playFirst()
		for range 4 {
			order := p.byChance(c)
			noFaultIn(t, p, order, states)
			if !slices.Equal(order, first) {
				sides++
			}
		}
	}
	if taken < 1500 || sides < 2000 {
		t.Errorf("%d are taken, %d orders are others", taken, sides)
	}
}

// allOrders: no more than so many of them.
func (p *plan) allOrders(most int) [][][2]int {
	var orders [][][2]int
	var goOn func(done [][2]int)
	goOn = func(done [][2]int) {
		nexts := p.nexts(done)
		if len(nexts) == 0 {
			orders = append(orders, slices.Clone(done))
		}
		for _, at := range nexts {
			if len(orders) < most {
				goOn(append(slices.Clone(done), at))
			}
		}
	}
	goOn(nil)
	return orders
}

// Promise 19: what is taken has no fault in each order that there is.
func TestPromise19AllOrders(t *testing.T) {
	t.Parallel()
	c := newChance(372)
	taken, orders := 0, 0
	for range 6000 {
		l := c.soundList(2+c.Intn(9), c.oneOf(1, 2, 4, 8))
		p := planOf(c.soundQueues(l, 2+c.Intn(2)))
		if c.Intn(2) == 0 {
			at := c.Intn(len(p.queues))
			p.queues[at] = c.changedCommands(p.queues[at])
			p = planOf(p.queues)
		}
		if len(p.all) > 14 || impl.CheckQueues(p.queues) != (impl.Verdict{}) {
			continue
		}
		taken++
		states := playedStates(t, p)
		for _, order := range p.allOrders(200) {
			orders++
			noFaultIn(t, p, order, states)
		}
	}
	if taken < 2000 || orders < 10000 {
		t.Errorf("%d are taken, in %d orders", taken, orders)
	}
}

// Promise 19: what is ahead of another one is so in each order, and just that: the
// other one can't be done as long as it is put off.
func TestPromise19WhoIsAhead(t *testing.T) {
	t.Parallel()
	c := newChance(373)
	ahead, free := 0, 0
	for n := range 1500 {
		p := planOf(c.someQueues(n))
		if _, all := impl.PlayQueues(p.queues); !all {
			continue
		}
		for _, a := range p.all {
			done := p.without(a)
			for _, b := range p.all {
				got := impl.AheadOf(p.queues, a[:], b[:])
				if want := a != b && !slices.Contains(done, b); got != want {
					t.Errorf("AheadOf(%s, %v, %v) = %v", toldQueues(p.queues), a, b, got)
				}
				if got {
					ahead++
				} else {
					free++
				}
			}
		}
	}
	if ahead < 20000 || free < 20000 {
		t.Errorf("%d are ahead, %d are not", ahead, free)
	}
}

// Promise 19: of what is refused as a race each of the two can be done ahead; what is
// stuck is so in each order.
func TestPromise19WhatIsRefused(t *testing.T) {
	t.Parallel()
	c := newChance(374)
	races, stuck := 0, 0
	for n := range 6000 {
		p := planOf(c.someQueues(n))
		switch v := impl.CheckQueues(p.queues); v.Code {
		case impl.BadRace:
			races++
			a, b := [2]int{v.Queue, v.At}, [2]int{v.Other / 64, v.Other % 64}
			one, other := p.command(a), p.command(b)
			if !slices.Contains(p.without(a), b) || !slices.Contains(p.without(b), a) {
				t.Errorf("%s has the fault %v, but one is always ahead", toldQueues(p.queues), v)
			}
			if one.Thing != other.Thing || one.Kind > 4 || other.Kind > 4 || one.Kind+other.Kind == 2 || a[0] >= b[0] {
				t.Errorf("%s has the fault %v", toldQueues(p.queues), v)
			}
		case impl.BadStuck:
			stuck++
			want := slices.SortedFunc(slices.Values(p.playFirst()), comparePosts)
			for range 3 {
				order := slices.SortedFunc(slices.Values(p.byChance(c)), comparePosts)
				if !slices.Equal(order, want) || slices.Contains(order, [2]int{v.Queue, v.At}) || v.At > 0 && !slices.Contains(order, [2]int{v.Queue, v.At - 1}) {
					t.Errorf("%s has the fault %v, and %v are done", toldQueues(p.queues), v, order)
				}
			}
		}
	}
	if races < 300 || stuck < 300 {
		t.Errorf("%d races, %d are stuck", races, stuck)
	}
}

func comparePosts(a, b [2]int) int { return slices.Compare(a[:], b[:]) }

// Promise 19: lists without a fault, parted into queues with marks between all that
// would race, are taken.
func TestPromise19SoundQueuesAreTaken(t *testing.T) {
	t.Parallel()
	c := newChance(375)
	taken, waits := 0, 0
	for range 6000 {
		l := c.soundList(1+c.Intn(20), c.oneOf(1, 2, 4, 8))
		if impl.CheckList(l) != (impl.Verdict{}) {
			continue
		}
		queues := c.soundQueues(l, 1+c.Intn(3))
		signals := 0
		for _, queue := range queues {
			for _, x := range queue {
				signals += x.Kind / 5 % 2 * (6 - x.Kind)
				waits += x.Kind / 6
			}
		}
		if signals == 32 {
			continue // there may have been no more marks
		}
		taken++
		if v := impl.CheckQueues(queues); v != (impl.Verdict{}) {
			t.Errorf("CheckQueues(%s) = %v", toldQueues(queues), v)
		}
	}
	if taken < 3000 || waits < 4000 {
		t.Errorf("%d are taken, with %d waits", taken, waits)
	}
}

// stateFaults: whether a list has a command whose thing is in another state.
func stateFaults(l []impl.Command) bool {
	for at := range l {
		if faults := faultsAt(l, at); len(faults) > 0 && faults[0] != impl.BadFresh {
			return true
		}
	}
	return false
}

// canBeTurned: whether a list can go on as it should with no more than so many turns.
func canBeTurned(done, rest []impl.Command, turns int) bool {
	if stateFaults(done) {
		return false
	}
	if len(rest) == 0 || canBeTurned(append(slices.Clone(done), rest[0]), rest[1:], turns) {
		return true
	}
	for _, x := range commandsThatAreGood {
		if turns > 0 && x.Kind == 4 && x.Thing < 2 && canBeTurned(append(slices.Clone(done), x), rest, turns-1) {
			return true
		}
	}
	return false
}

// Chapter 19: turned lists are in their states, and fewer turns do not do.
func TestTurnsAreTheFewest(t *testing.T) {
	t.Parallel()
	c := newChance(376)
	for n := range 600 {
		l := c.fewCommands(1+n%5, 2)
		turned, ok := impl.LeastTurns(l)
		rest := slices.DeleteFunc(slices.Clone(l), func(x impl.Command) bool { return x.Kind == 4 })
		if !ok || !canBeTurned(nil, rest, len(turned)-len(rest)) {
			t.Errorf("LeastTurns(%s) = %s, %v", toldCommands(l), toldCommands(turned), ok)
		}
		if turns := len(turned) - len(rest); turns > 0 && canBeTurned(nil, rest, turns-1) {
			t.Errorf("LeastTurns(%s) = %s, but fewer do", toldCommands(l), toldCommands(turned))
		}
	}
}

func TestTurnedListsAreInTheirStates(t *testing.T) {
	t.Parallel()
	c := newChance(377)
	for range 12000 {
		l := c.fewCommands(c.Intn(40), c.oneOf(1, 2, 3, 8))
		turned, ok := impl.LeastTurns(l)
		if !ok {
			continue
		}
		isTurn := func(x impl.Command) bool { return x.Kind == 4 }
		rest, kept := slices.DeleteFunc(slices.Clone(l), isTurn), slices.DeleteFunc(slices.Clone(turned), isTurn)
		if stateFaults(turned) || !slices.Equal(rest, kept) {
			t.Errorf("LeastTurns(%s) = %s", toldCommands(l), toldCommands(turned))
		}
		if code := impl.CheckList(turned).Code; code != 0 && code != impl.BadFresh {
			t.Errorf("LeastTurns(%s) = %s has the fault %d", toldCommands(l), toldCommands(turned), code)
		}
		if again, ok := impl.LeastTurns(turned); !ok || !slices.Equal(again, turned) {
			t.Errorf("LeastTurns(%s) = %s, again %s", toldCommands(l), toldCommands(turned), toldCommands(again))
		}
	}
}

// anyCommand: most often a good one.
func (c chance) anyCommand() impl.Command {
	x := c.fewCommand(8)
	if c.Intn(4) > 0 {
		return x
	}
	*[]*int{&x.Kind, &x.Thing, &x.From, &x.To, &x.Mark}[c.Intn(5)] = c.anyNumber(0, 1, 2, 3, 6, 7, 31, 32)
	return x
}

// anyQueues: some have a command of any kind, some are too many or too long.
func (c chance) anyQueues(n int) [][]impl.Command {
	queues := c.someQueues(n)
	switch c.Intn(8) {
	case 0:
		queues = append(queues, nil, []impl.Command{c.anyCommand()})
	case 1:
		queues = append(queues, []impl.Command{c.anyCommand()})
	case 2:
		queues = append(queues, c.fewCommands(c.oneOf(59, 60, 61, 300), 8))
	case 3:
		if len(queues) > 0 {
			at := c.Intn(len(queues))
			queues[at] = append(slices.Clone(queues[at]), c.anyCommand())
		}
	}
	return queues
}

// anyPair: most often one that is there.
func (c chance) anyPair(queues [][]impl.Command) []int {
	if all := planOf(queues).all; len(all) > 0 && c.Intn(6) > 0 {
		at := all[c.Intn(len(all))]
		return at[:]
	}
	pair := []int{c.anyNumber(0, 1, 2), c.anyNumber(0, 1, 2), c.Intn(3)}
	return pair[:c.oneOf(0, 1, 2, 2, 2, 3)]
}

// Promise 25: commands, lists and queues of any kind.
func TestPromise25AnyCommands(t *testing.T) {
	t.Parallel()
	c := newChance(378)
	var good [5]int
	for n := range 8000 {
		l := c.soundList(c.Intn(20), 8)
		if n%2 == 0 {
			l = append(l, c.anyCommand())
		}
		queues := c.anyQueues(n)
		ahead := heldAheadOf(t, queues, c.anyPair(queues), c.anyPair(queues))
		for at, ok := range []bool{heldCommand(t, c.anyCommand()), heldList(t, l).Code == 0, heldPlayed(t, queues), ahead, heldTurned(t, l)} {
			if ok {
				good[at]++
			}
		}
		heldQueues(t, queues)
	}
	for number, n := range good {
		if n < 300 || n > 7700 {
			t.Errorf("function %d: %d of 8000 are as said", number, n)
		}
	}
}

// Promise 25: the least and the greatest numbers everywhere.
func TestPromise25NumbersOfCommands(t *testing.T) {
	t.Parallel()
	ends := []int{math.MinInt, math.MinInt + 1, -1, 0, 1, 4, math.MaxInt - 1, math.MaxInt}
	for n := range 8 * 8 * 8 * 8 {
		a, b, d, e := ends[n%8], ends[n/8%8], ends[n/64%8], ends[n/512]
		for _, x := range []impl.Command{{Kind: a, Thing: b, From: d, To: e, Mark: a}, {Kind: 1 + n%6, Thing: a, From: b, To: d, Mark: e}} {
			heldCommand(t, x)
			heldList(t, []impl.Command{x})
			heldTurned(t, []impl.Command{x, x})
			heldPlayed(t, [][]impl.Command{{x}, nil})
			heldQueues(t, [][]impl.Command{nil, {x}, {x}})
			heldAheadOf(t, [][]impl.Command{{x}, {x, x}}, []int{0, 0}, []int{1, 0})
		}
		if impl.AheadOf(queuesFrom("r0 r0 | r0"), []int{a, b}, []int{d, e}) != ([4]int{a, b, d, e} == [4]int{0, 0, 0, 1}) {
			t.Errorf("AheadOf of %d %d, %d %d", a, b, d, e)
		}
	}
}

// queuesWithMore: each list, and the list of them, with as much again behind it.
func queuesWithMore(queues [][]impl.Command) [][]impl.Command {
	var more [][]impl.Command
	for range 2 {
		for _, l := range queues {
			more = append(more, behind(l))
		}
	}
	return more[:len(queues)]
}

// areTheQueues: whether queues are as they were, with what lies behind them.
func areTheQueues(queues, was [][]impl.Command) bool {
	return slices.EqualFunc(queues, was, unchanged[impl.Command]) && slices.EqualFunc(queues[:2*len(queues)][len(queues):], was, unchanged[impl.Command])
}

// Promise 25: nothing is written into lists, queues and pairs, and no answer hangs on
// what lies behind them.
func TestPromise25CommandsStay(t *testing.T) {
	t.Parallel()
	c := newChance(379)
	for n := range 3000 {
		was := c.someQueues(n)
		given := queuesWithMore(was)
		a, b := c.anyPair(was), c.anyPair(was)
		first, second := behind(a), behind(b)
		heldPlayed(t, given)
		heldQueues(t, given)
		heldAheadOf(t, given, first, second)
		for _, l := range given {
			heldList(t, l)
			heldTurned(t, l)
		}
		if !areTheQueues(given, was) || !unchanged(first, a) || !unchanged(second, b) {
			t.Errorf("%s, %v or %v is changed", toldQueues(was), a, b)
		}
	}
}

// Promise 25: what is played and what is turned is new memory, each pair by itself.
func TestPromise25PlayedPairsAreNewMemory(t *testing.T) {
	t.Parallel()
	c := newChance(380)
	for n := range 1500 {
		was := c.someQueues(n)
		given := queuesWithMore(was)
		order, _ := wantPlayed(was)
		first, _ := impl.PlayQueues(given)
		second, _ := impl.PlayQueues(given)
		listsApart(t, "PlayQueues", first...)
		clear(first[:cap(first)])
		if !areTheQueues(given, was) || !slices.Equal(pairsOf(second), order) {
			t.Errorf("what PlayQueues answers of %s shares its memory", toldQueues(was))
		}
		for _, l := range given {
			apartFrom(t, "LeastTurns", l, func(l []impl.Command) []impl.Command {
				turned, _ := impl.LeastTurns(l)
				return turned
			})
			clear(l)
		}
		third, _ := impl.PlayQueues(was)
		if !slices.Equal(pairsOf(second), order) || !slices.Equal(pairsOf(third), order) {
			t.Errorf("what PlayQueues answers of %s is changed", toldQueues(was))
		}
	}
}

// All goroutines have ended. Tests that go side by side wait while this one runs, so
// that there are no others.
func TestPlayingLeavesNoGoroutines(t *testing.T) {
	c := newChance(381)
	was := runtime.NumGoroutine()
	for n := range 3000 {
		queues := c.anyQueues(n)
		impl.PlayQueues(queues)
		impl.CheckQueues(queues)
		impl.AheadOf(queues, []int{0, 0}, []int{0, 1})
	}
	for range 500 {
		if runtime.NumGoroutine() <= was {
			return
		}
		time.Sleep(10 * time.Millisecond)
	}
	t.Errorf("there were %d goroutines, there are %d", was, runtime.NumGoroutine())
}
