package tests

import (
	"slices"
	"testing"

	"loop.example/g00053/impl"
)

// Each heldX: a function answers, at any arguments, as it is worked out another way;
// what that is.

func heldCommand(t *testing.T, c impl.Command) bool {
	t.Helper()
	want := wantCommand(c)
	if got := impl.GoodCommand(c); got != want {
		t.Errorf("GoodCommand(%v) = %v", c, got)
	}
	return want
}

func heldList(t *testing.T, l []impl.Command) impl.Verdict {
	t.Helper()
	want := wantList(l)
	if got := impl.CheckList(l); got != want {
		t.Errorf("CheckList(%v) = %v, want %v", toldCommands(briefly(l)), got, want)
	}
	return want
}

func heldPlayed(t *testing.T, queues [][]impl.Command) bool {
	t.Helper()
	want, all := wantPlayed(queues)
	got, ok := impl.PlayQueues(queues)
	if !slices.Equal(pairsOf(got), want) || ok != all {
		t.Errorf("PlayQueues(%v) = %v, %v, want %v, %v", toldQueues(queues), got, ok, want, all)
	}
	return all
}

func heldAheadOf(t *testing.T, queues [][]impl.Command, a, b []int) bool {
	t.Helper()
	want := wantAheadOf(queues, a, b)
	if got := impl.AheadOf(queues, a, b); got != want {
		t.Errorf("AheadOf(%v, %v, %v) = %v", toldQueues(queues), a, b, got)
	}
	return want
}

// heldAllAhead: each two commands of queues; how many are ahead of another one.
func heldAllAhead(t *testing.T, queues [][]impl.Command) int {
	t.Helper()
	p := planOf(queues)
	ways, asSaid, count := p.ways(), p.areAsSaid(), 0
	for a, at := range p.all {
		for b, other := range p.all {
			want := asSaid && a != b && ways[a][b]
			if got := impl.AheadOf(queues, at[:], other[:]); got != want {
				t.Errorf("AheadOf(%v, %v, %v) = %v", toldQueues(queues), at, other, got)
			}
			if want {
				count++
			}
		}
	}
	return count
}

func heldQueues(t *testing.T, queues [][]impl.Command) impl.Verdict {
	t.Helper()
	want := wantQueues(queues)
	if got := impl.CheckQueues(queues); got != want {
		t.Errorf("CheckQueues(%v) = %v, want %v", toldQueues(queues), got, want)
	}
	return want
}

func heldTurned(t *testing.T, l []impl.Command) bool {
	t.Helper()
	want, good := wantLeastTurns(l)
	if got, ok := impl.LeastTurns(l); !slices.Equal(got, want) || ok != good {
		t.Errorf("LeastTurns(%v) = %v, %v, want %v, %v", toldCommands(briefly(l)), toldCommands(got), ok, toldCommands(want), good)
	}
	return good
}

// pairsOf: of lists of two numbers; others are no pairs.
func pairsOf(l [][]int) [][2]int {
	var pairs [][2]int
	for _, one := range l {
		if len(one) != 2 {
			return [][2]int{{-1, -1}}
		}
		pairs = append(pairs, [2]int(one))
	}
	return pairs
}

func (c chance) goodCommand() impl.Command {
	return commandsThatAreGood[c.Intn(len(commandsThatAreGood))]
}

// fewCommand: of few things and few marks.
func (c chance) fewCommand(few int) impl.Command {
	for {
		if x := c.goodCommand(); x.Thing < few && x.Mark < few {
			return x
		}
	}
}

func (c chance) fewCommands(count, few int) []impl.Command {
	var l []impl.Command
	for range count {
		l = append(l, c.fewCommand(few))
	}
	return l
}

// soundList: most often what is asked can be done, since things are turned ahead of it.
func (c chance) soundList(count, few int) []impl.Command {
	var l []impl.Command
	for len(l) < count {
		x := c.fewCommand(few)
		state := stateAhead(l, len(l), x.Thing)
		switch {
		case c.Intn(100) == 0:
		case x.Kind == 1 && !writtenAhead(l, len(l), x.Thing) && c.Intn(20) > 0:
			continue
		case x.Kind == 4 && (x.To == state || c.Intn(5) > 0):
			continue
		case x.Kind == 4:
			x.From = state
		case x.Kind <= 3 && x.Kind != state:
			l = append(l, impl.Command{Kind: 4, Thing: x.Thing, From: state, To: x.Kind})
		}
		l = append(l, x)
	}
	return l[:count]
}

// changedCommands: with one thing changed.
func (c chance) changedCommands(l []impl.Command) []impl.Command {
	l = slices.Clone(l)
	if len(l) == 0 {
		return append(l, c.fewCommand(3))
	}
	at, other := c.Intn(len(l)), c.Intn(len(l))
	switch x := &l[at]; c.Intn(8) {
	case 0:
		*x = c.fewCommand(3)
	case 1, 2:
		l = slices.Delete(l, at, at+1)
	case 3:
		l = slices.Insert(l, at, c.fewCommand(3))
	case 4:
		l[at], l[other] = l[other], l[at]
	case 5:
		*[]*int{&x.Kind, &x.Thing, &x.From, &x.To, &x.Mark}[c.Intn(5)] += c.oneOf(-1, 1)
	default:
		if x.Kind < 5 {
			x.Thing = c.Intn(3)
		} else {
			x.Mark = (x.Mark + c.oneOf(1, 31)) % 32
		}
	}
	return l
}

// queueMaker: queues that are made side by side, and for each queue how many commands
// of each one are ahead of what comes next there.
type queueMaker struct {
	chance
	queues [][]impl.Command
	ahead  [][]int
	marks  []int    // those that are left
	seen   [][2]int // where commands stand, in the order in which they were made
}

func (m *queueMaker) put(queue int, x impl.Command) {
	m.seen = append(m.seen, [2]int{queue, len(m.queues[queue])})
	m.queues[queue] = append(m.queues[queue], x)
	m.ahead[queue][queue] = len(m.queues[queue])
}

// wait: one queue for all that another one has so far.
func (m *queueMaker) wait(queue, other int) {
	if len(m.marks) == 0 {
		return
	}
	m.put(other, impl.Command{Kind: 5, Mark: m.marks[0]})
	m.put(queue, impl.Command{Kind: 6, Mark: m.marks[0]})
	m.marks = m.marks[1:]
	for of, count := range m.ahead[other] {
		m.ahead[queue][of] = max(m.ahead[queue][of], count)
	}
}

// putBehind: behind all with which a command would race.
func (m *queueMaker) putBehind(queue int, x impl.Command) {
	for _, at := range slices.Clone(m.seen) {
		other := m.queues[at[0]][at[1]]
		if other.Kind < 5 && other.Thing == x.Thing && other.Kind+x.Kind > 2 && at[1] >= m.ahead[queue][at[0]] {
			m.wait(queue, at[0])
		}
	}
	m.put(queue, x)
}

// soundQueues: with commands of a list, each in some queue, and marks so that none
// races with another one, as long as there are marks.
func (c chance) soundQueues(l []impl.Command, count int) [][]impl.Command {
	m := &queueMaker{chance: c, queues: make([][]impl.Command, count), marks: c.Perm(32)}
	for range count {
		m.ahead = append(m.ahead, make([]int, count))
	}
	queue := c.Intn(count)
	for _, x := range l {
		if c.Intn(2) == 0 {
			queue = c.Intn(count)
		}
		if x.Kind < 5 {
			m.putBehind(queue, x)
		}
	}
	return m.queues
}

// someQueues: some are sound, some nearly so, some by chance.
func (c chance) someQueues(n int) [][]impl.Command {
	count := c.oneOf(1, 2, 2, 3, 3, 3)
	var queues [][]impl.Command
	if n%4 == 0 {
		for range c.Intn(4) {
			queues = append(queues, c.fewCommands(c.Intn(6), c.oneOf(1, 2, 3)))
		}
		return queues
	}
	queues = c.soundQueues(c.soundList(2+c.Intn(16), c.oneOf(1, 2, 4, 8)), count)
	for range n % 4 / 2 * c.oneOf(1, 1, 2) {
		at := c.Intn(count)
		queues[at] = c.changedCommands(queues[at])
	}
	return queues
}

func TestAllSmallCommands(t *testing.T) {
	t.Parallel()
	good := 0
	for kind := -1; kind <= 8; kind++ {
		for n := range 11 * 6 * 6 {
			for _, mark := range []int{-1, 0, 1, 2, 16, 30, 31, 32, 33, 64} {
				if heldCommand(t, impl.Command{Kind: kind, Thing: n%11 - 1, From: n/11%6 - 1, To: n/66 - 1, Mark: mark}) {
					good++
				}
			}
		}
	}
	if want := 8*(3+9) + 2*6; good != want {
		t.Errorf("%d are good, not %d", good, want)
	}
	for _, x := range goodCommands() {
		if !heldCommand(t, x) {
			t.Errorf("%v is not good", x)
		}
	}
}

func TestDrawnLists(t *testing.T) {
	t.Parallel()
	c := newChance(361)
	codes := map[int]int{}
	for n := range 60000 {
		l := c.soundList(1+c.Intn(c.oneOf(6, 20, 61)), c.oneOf(1, 2, 4, 8))
		if n%3 == 0 {
			l = c.changedCommands(l)
		}
		codes[heldList(t, l).Code]++
	}
	for code, least := range []int{5000, 1000, 3000, 1000, 1000} {
		if codes[code] < least {
			t.Errorf("code %d: %d lists", code, codes[code])
		}
	}
}

// All lists of up to four commands of one thing.
func TestAllListsOfOneThing(t *testing.T) {
	t.Parallel()
	var of []impl.Command
	for _, x := range commandsThatAreGood {
		if x.Thing == 0 && x.Mark == 0 && x.Kind < 5 {
			of = append(of, x)
		}
	}
	taken := 0
	var goOn func(l []impl.Command)
	goOn = func(l []impl.Command) {
		if heldList(t, l).Code == 0 {
			taken++
		}
		heldTurned(t, l)
		if len(l) < 4 {
			for _, x := range of {
				goOn(append(slices.Clone(l), x))
			}
		}
	}
	goOn(nil)
	if taken < 50 {
		t.Errorf("%d have no fault", taken)
	}
}

func TestPlayingDrawnQueues(t *testing.T) {
	t.Parallel()
	c := newChance(362)
	all := 0
	for n := range 16000 {
		if heldPlayed(t, c.someQueues(n)) {
			all++
		}
	}
	if all < 10000 || all > 15000 {
		t.Errorf("all is done of %d of 16000", all)
	}
}

func TestWhoIsAheadInDrawnQueues(t *testing.T) {
	t.Parallel()
	c := newChance(363)
	ahead := 0
	for n := range 4000 {
		ahead += heldAllAhead(t, c.someQueues(n))
	}
	if ahead < 100000 {
		t.Errorf("%d are ahead of others", ahead)
	}
}

func TestCheckingDrawnQueues(t *testing.T) {
	t.Parallel()
	c := newChance(364)
	codes := map[int]int{}
	for n := range 24000 {
		codes[heldQueues(t, c.someQueues(n)).Code]++
	}
	for code, least := range []int{3000, 300, 500, 200, 200, 500, 500} {
		if codes[code] < least {
			t.Errorf("code %d: %d queues", code, codes[code])
		}
	}
}

// All queues of few commands from a short list.
func TestAllSmallQueues(t *testing.T) {
	t.Parallel()
	from := commandsFrom("r0 w0 t0:02 t0:21 !0 ?0 !1 ?1 w1")
	var lists [][]impl.Command
	lists = append(lists, nil)
	for _, a := range from {
		lists = append(lists, []impl.Command{a})
		for _, b := range from {
			lists = append(lists, []impl.Command{a, b})
		}
	}
	for _, one := range lists {
		for _, other := range lists {
			queues := [][]impl.Command{one, other}
			heldQueues(t, queues)
			heldPlayed(t, queues)
			heldAllAhead(t, queues)
			heldQueues(t, [][]impl.Command{commandsFrom("t0:02 w0 !2"), append(commandsFrom("?2"), one...), other})
		}
	}
}

func allAreGood(l []impl.Command) bool {
	return !slices.ContainsFunc(l, func(x impl.Command) bool { return !wantCommand(x) })
}

func TestTurningDrawnLists(t *testing.T) {
	t.Parallel()
	c := newChance(365)
	turned, long := 0, 0
	for n := range 40000 {
		l := c.soundList(c.Intn(c.oneOf(4, 20, 50, 61)), c.oneOf(1, 2, 4, 8))
		switch n % 5 {
		case 0:
			l = c.changedCommands(l)
		case 1:
			l = slices.DeleteFunc(c.fewCommands(c.Intn(61), 8), func(x impl.Command) bool { return x.Kind > 3 && c.Intn(8) > 0 })
		case 2:
			l = slices.DeleteFunc(c.fewCommands(140, 8), func(x impl.Command) bool { return x.Kind > 3 && c.Intn(8) > 0 })
		}
		if heldTurned(t, l) {
			turned++
		} else if len(l) <= 60 && allAreGood(l) {
			long++
		}
	}
	if turned < 30000 || turned > 38000 || long < 500 {
		t.Errorf("%d of 40000 are turned, %d become too long", turned, long)
	}
}
