package tests

import (
	"math"
	"slices"
	"strconv"
	"strings"
	"testing"

	"loop.example/g00053/impl"
)

// The edges that chapter 19 names, with what is answered written out.

// commandsFrom: `r0`, `w0`, `p0` and `t0:12` (from 1 to 2) of thing 0, `!3` the signal
// of mark 3, `?3` who waits for it.
func commandsFrom(text string) []impl.Command {
	var l []impl.Command
	for _, word := range strings.Fields(text) {
		number, turn, _ := strings.Cut(word[1:], ":")
		n, _ := strconv.Atoi(number)
		c := impl.Command{Kind: 1 + strings.Index("rwpt!?", word[:1])}
		if c.Kind < 5 {
			c.Thing = n
		} else {
			c.Mark = n
		}
		if turn != "" {
			c.From, c.To = int(turn[0]-'0'), int(turn[1]-'0')
		}
		l = append(l, c)
	}
	return l
}

// queuesFrom: with `|` between each two.
func queuesFrom(text string) [][]impl.Command {
	var queues [][]impl.Command
	for _, one := range strings.Split(text, "|") {
		queues = append(queues, commandsFrom(one))
	}
	return queues
}

// toldCommands: as they are read; others by their numbers.
func toldCommands(l []impl.Command) string {
	var told []string
	for _, c := range l {
		text := "{" + toldNumbers([]int{c.Kind, c.Thing, c.From, c.To, c.Mark}) + "}"
		if wantCommand(c) {
			text = "rwpt!?"[c.Kind-1:c.Kind] + strconv.Itoa(c.Thing+c.Mark)
		}
		if wantCommand(c) && c.Kind == 4 {
			text += ":" + strconv.Itoa(c.From) + strconv.Itoa(c.To)
		}
		told = append(told, text)
	}
	return strings.Join(told, " ")
}

func toldQueues(queues [][]impl.Command) string {
	var told []string
	for _, l := range briefly(queues) {
		told = append(told, toldCommands(briefly(l)))
	}
	return strings.Join(told, " | ")
}

// toldVerdict: what is wrong, and of which queue and number; of a race, too, with which
// other one.
func toldVerdict(v impl.Verdict) string {
	if v == (impl.Verdict{}) {
		return ""
	}
	told := "none"
	if v.Code > 0 && v.Code < 7 {
		told = []string{"command", "state", "from", "fresh", "race", "stuck"}[v.Code-1]
	}
	told += " " + toldNumbers([]int{v.Queue, v.At})
	if v.Code == impl.BadRace || v.Other != 0 {
		told += " with " + toldNumbers([]int{v.Other / 64, v.Other % 64})
	}
	return told
}

func TestConstantsOfCommands(t *testing.T) {
	t.Parallel()
	got := []int{
		impl.MaxThings, impl.MaxCommands, impl.MaxQueues,
		impl.StNone, impl.StRead, impl.StWrite, impl.StTarget,
		impl.CmdRead, impl.CmdWrite, impl.CmdPaint, impl.CmdTurn, impl.CmdSignal, impl.CmdWait,
		impl.BadCommand, impl.BadState, impl.BadFrom, impl.BadFresh, impl.BadRace, impl.BadStuck,
	}
	if want := []int{8, 60, 3, 0, 1, 2, 3, 1, 2, 3, 4, 5, 6, 1, 2, 3, 4, 5, 6}; !slices.Equal(got, want) {
		t.Errorf("constants %v", got)
	}
}

// wrongCommands: each has one field that is not as said.
func wrongCommands() []impl.Command {
	l := []impl.Command{{}, {Kind: 7}, {Kind: -1}, {Kind: 8}, {Kind: 7, Thing: 1}, {Kind: 0, Mark: 1}}
	far := []int{math.MinInt, math.MinInt + 1, -1 << 32, -1<<32 + 1, -100, -2, -1, 100, 1 << 32, 1<<32 + 1, 1<<32 + 2, math.MaxInt - 1, math.MaxInt}
	for _, n := range append([]int{0, 7, 8}, far...) {
		l = append(l, impl.Command{Kind: n})
		if n < 1 || n > 7 {
			l = append(l, impl.Command{Kind: n, Thing: 3}, impl.Command{Kind: n, From: 1, To: 2}, impl.Command{Kind: n, Mark: 3})
		}
	}
	for kind := 1; kind <= 4; kind++ {
		for _, n := range append([]int{8, 9, 31, 32}, far...) {
			c := impl.Command{Kind: kind, Thing: n}
			if kind == 4 {
				c.To = 2
			}
			l = append(l, c)
		}
	}
	for kind := 5; kind <= 6; kind++ {
		for _, n := range append([]int{32, 33, 63, 64}, far...) {
			l = append(l, impl.Command{Kind: kind, Mark: n})
		}
	}
	for _, n := range append([]int{4, 5, 8}, far...) {
		for state := 1; state <= 3; state++ {
			l = append(l, impl.Command{Kind: 4, From: n, To: state}, impl.Command{Kind: 4, From: state, To: n}, impl.Command{Kind: 4, From: n, To: n})
		}
		l = append(l, impl.Command{Kind: 4, To: n})
	}
	for state := range 4 {
		l = append(l, impl.Command{Kind: 4, From: state}, impl.Command{Kind: 4, From: state, To: state})
	}
	return append(l, withNeedlessFields(append(far, 1, 2, 3))...)
}

// withNeedlessFields: commands with a field that is not named for their kind.
func withNeedlessFields(numbers []int) []impl.Command {
	var l []impl.Command
	for _, n := range numbers {
		for kind := 1; kind <= 3; kind++ {
			l = append(l, impl.Command{Kind: kind, From: n}, impl.Command{Kind: kind, To: n}, impl.Command{Kind: kind, Mark: n}, impl.Command{Kind: kind, Thing: 7, Mark: n})
		}
		l = append(l, impl.Command{Kind: 4, To: 2, Mark: n}, impl.Command{Kind: 4, Thing: 7, From: 1, To: 3, Mark: n})
		for kind := 5; kind <= 6; kind++ {
			l = append(l, impl.Command{Kind: kind, Thing: n}, impl.Command{Kind: kind, From: n}, impl.Command{Kind: kind, To: n}, impl.Command{Kind: kind, Thing: n, Mark: 31})
		}
	}
	return l
}

func TestGoodCommands(t *testing.T) {
	t.Parallel()
	for _, text := range []string{"r0", "r7", "w0", "w7", "p0", "p7", "!0", "!31", "?0", "?31", "t0:01", "t0:02", "t0:03", "t0:12", "t0:13", "t0:21", "t0:23", "t0:31", "t0:32", "t7:01", "t7:32"} {
		if c := commandsFrom(text)[0]; !impl.GoodCommand(c) || !heldCommand(t, c) {
			t.Errorf("%s is not good", text)
		}
	}
	for kind := 1; kind <= 4; kind++ {
		for number := -3; number <= 12; number++ {
			c := impl.Command{Kind: kind, Thing: number}
			if kind == 4 {
				c.From, c.To = 3, 1
			}
			if got := impl.GoodCommand(c); got != (number >= 0 && number <= 7) {
				t.Errorf("GoodCommand(%v) = %v", c, got)
			}
		}
	}
	for from := -2; from <= 5; from++ {
		for to := -2; to <= 5; to++ {
			c := impl.Command{Kind: impl.CmdTurn, Thing: 5, From: from, To: to}
			want := from >= 0 && from <= 3 && to >= 1 && to <= 3 && from != to
			if got := impl.GoodCommand(c); got != want {
				t.Errorf("GoodCommand(%v) = %v", c, got)
			}
		}
	}
	for mark := -3; mark <= 70; mark++ {
		for _, kind := range []int{impl.CmdSignal, impl.CmdWait} {
			if got := impl.GoodCommand(impl.Command{Kind: kind, Mark: mark}); got != (mark >= 0 && mark <= 31) {
				t.Errorf("GoodCommand(kind %d, mark %d) = %v", kind, mark, got)
			}
		}
	}
}

// refusedQueues: nothing is played of them, and none is ahead of another one.
func refusedQueues(t *testing.T, queues [][]impl.Command, want string) {
	t.Helper()
	if got := toldVerdict(impl.CheckQueues(queues)); got != want {
		t.Errorf("CheckQueues(%s) = %s, want %s", toldQueues(queues), got, want)
	}
	pairs, all := impl.PlayQueues(queues)
	if len(pairs) > 0 || all || impl.AheadOf(queues, []int{0, 0}, []int{0, 1}) {
		t.Errorf("%s is played: %v, %v", toldQueues(queues), pairs, all)
	}
	heldQueues(t, queues)
	heldPlayed(t, queues)
}

func TestCommandsThatAreNone(t *testing.T) {
	t.Parallel()
	good := commandsFrom("t0:02 w0 !9 t1:03 p1")
	for _, wrong := range wrongCommands() {
		if impl.GoodCommand(wrong) || heldCommand(t, wrong) {
			t.Errorf("%v is good", wrong)
		}
		for at := range 6 {
			l := slices.Insert(slices.Clone(good), at, wrong)
			if got, want := impl.CheckList(l), (impl.Verdict{Code: impl.BadCommand, At: at}); got != want {
				t.Errorf("CheckList(%s) = %v", toldCommands(l), got)
			}
			if turned, ok := impl.LeastTurns(l); ok || len(turned) > 0 {
				t.Errorf("LeastTurns(%s) = %s, %v", toldCommands(l), toldCommands(turned), ok)
			}
			refusedQueues(t, [][]impl.Command{l}, "command 0 "+strconv.Itoa(at))
			refusedQueues(t, [][]impl.Command{commandsFrom("?9 ?9"), l, nil}, "command 1 "+strconv.Itoa(at))
			refusedQueues(t, [][]impl.Command{nil, commandsFrom("?9"), l}, "command 2 "+strconv.Itoa(at))
		}
	}
}

// listIs: what is wrong with a list first, and nothing else of the verdict is told.
func listIs(t *testing.T, text, want string) {
	t.Helper()
	l := commandsFrom(text)
	if got := toldVerdict(impl.CheckList(l)); got != want {
		t.Errorf("CheckList(%s) = %s, want %s", text, got, want)
	}
	heldList(t, l)
}

func TestListsWithoutFaults(t *testing.T) {
	t.Parallel()
	for _, text := range []string{
		"", "t0:01", "t0:02", "t0:03", "t7:02 w7", "t7:03 p7", "t0:02 w0 w0 w0 t0:21 r0 r0",
		"t0:03 p0 t0:31 r0", "t0:03 p0 t0:32 w0 t0:21 r0 t0:13 p0 t0:31 r0", "t0:01 t0:12 t0:23 t0:31 t0:13 t0:32 t0:21",
		"t0:02 t1:03 w0 p1 t1:31 t0:21 r1 r0", "t0:02 w0 t0:23 t0:31 t0:12 t0:21 r0",
		"!0 ?1", "?3 ?3 !3", "!3 !3 !3", "?31", "!0 t0:02 ?5 w0 !0 t0:21 ?7 r0 !0",
		"t0:02 w0 t0:21 t1:02 r0 w1 t1:21 r1 r0",
	} {
		listIs(t, text, "")
	}
	if got := impl.CheckList(nil); got != (impl.Verdict{}) {
		t.Errorf("CheckList(nil) = %v", got)
	}
}

// Each state of a thing, and each kind of command.
func TestStatesOfThings(t *testing.T) {
	t.Parallel()
	ahead := []string{"", "t0:02 w0 t0:21 ", "t0:02 w0 ", "t0:03 p0 "}
	for state, first := range ahead {
		count := len(commandsFrom(first))
		for kind, word := range []string{"r0", "w0", "p0"} {
			want := "state 0 " + strconv.Itoa(count)
			if state == kind+1 {
				want = ""
			}
			listIs(t, first+word, want)
			listIs(t, "!0 "+first+"?0 t1:02 "+word+" w7", map[bool]string{true: "state 0 " + strconv.Itoa(count+3), false: "state 0 " + strconv.Itoa(count+4)}[want != ""])
		}
		for from := range 4 {
			for to := 1; to <= 3; to++ {
				if from == to {
					continue
				}
				want := "from 0 " + strconv.Itoa(count)
				if from == state {
					want = ""
				}
				listIs(t, first+"t0:"+strconv.Itoa(from)+strconv.Itoa(to), want)
			}
		}
	}
	// another thing has a state of its own
	listIs(t, "t0:02 w1", "state 0 1")
	listIs(t, "t1:02 w0", "state 0 1")
	listIs(t, "t1:02 t0:21", "from 0 1")
	listIs(t, "t0:02 t7:02 w7 w0 w6", "state 0 4")
	// it stays as it was turned last
	listIs(t, "t0:02 t0:23 w0", "state 0 2")
	listIs(t, "t0:02 t0:23 p0 t0:23", "from 0 3")
	listIs(t, "t0:02 t0:02", "from 0 1")
	listIs(t, "t0:02 w0 t0:01", "from 0 2")
}

func TestWhatIsWritten(t *testing.T) {
	t.Parallel()
	listIs(t, "t0:01 r0", "fresh 0 1")
	listIs(t, "t0:02 w0 t0:21 r0", "")
	listIs(t, "t0:03 p0 t0:31 r0", "")
	listIs(t, "t0:02 t0:21 r0", "fresh 0 2")
	listIs(t, "t0:03 t0:31 r0", "fresh 0 2")
	// what was written stays so in all states
	listIs(t, "t0:02 w0 t0:23 t0:31 r0", "")
	listIs(t, "t0:03 p0 t0:32 t0:23 t0:31 r0 t0:12 t0:21 r0", "")
	// another thing's write
	listIs(t, "t0:01 t1:02 w1 r0", "fresh 0 3")
	listIs(t, "t1:01 t0:02 w0 r1", "fresh 0 3")
	listIs(t, "t7:02 w7 t7:21 t6:01 r7 r6", "fresh 0 5")
	// it comes too late
	listIs(t, "t0:01 r0 t0:12 w0", "fresh 0 1")
	// a turn from StNone comes ahead of what is written
	listIs(t, "t0:02 w0 t0:01 r0", "from 0 2")
	listIs(t, "t0:01 t0:01 r0", "from 0 1")
	// a mark writes nothing
	listIs(t, "t0:01 !0 ?0 r0", "fresh 0 3")
}

func TestWhichFaultIsFirst(t *testing.T) {
	t.Parallel()
	// of two of one command
	listIs(t, "r0", "state 0 0")
	listIs(t, "t0:02 r0", "state 0 1")
	listIs(t, "t0:03 r0", "state 0 1")
	listIs(t, "t0:01 r0", "fresh 0 1")
	// of several commands
	listIs(t, "w0 t0:12 r0", "state 0 0")
	listIs(t, "t0:12 w0 r0", "from 0 0")
	listIs(t, "t0:01 r0 w0 t0:23", "fresh 0 1")
	listIs(t, "t0:01 w0 r0 t0:23", "state 0 1")
	listIs(t, "t0:01 t0:23 w0 r0", "from 0 1")
	wrong := impl.Command{Kind: impl.CmdRead, Mark: 1}
	for at, want := range []string{"command 0 0", "command 0 1", "fresh 0 1", "fresh 0 1"} {
		l := slices.Insert(commandsFrom("t0:01 r0 w0"), at, wrong)
		if got := toldVerdict(impl.CheckList(l)); got != want {
			t.Errorf("CheckList(%s) = %s, want %s", toldCommands(l), got, want)
		}
	}
}

// many: one command again and again behind others.
func many(first, again string, count int) []impl.Command {
	l := commandsFrom(first)
	return append(l, slices.Repeat(commandsFrom(again), count-len(l))...)
}

func TestLongLists(t *testing.T) {
	t.Parallel()
	for _, count := range []int{1, 59, 60} {
		for _, l := range [][]impl.Command{many("t0:02", "w0", count), many("", "!5", count), many("", "?5", count)} {
			if got := impl.CheckList(l); got != (impl.Verdict{}) {
				t.Errorf("CheckList of %d commands = %v", count, got)
			}
		}
		// a fault at the first, a middle and the last number
		for _, at := range []int{0, count / 2, count - 1} {
			for fault, x := range map[string]string{"command": "r9", "state": "w1", "from": "t0:21", "fresh": "r7"} {
				l := many("", "!5", count)
				l[at] = commandsFrom(x)[0]
				want := fault + " 0 " + strconv.Itoa(at)
				if fault == "fresh" {
					if at == 0 {
						continue
					}
					l[0] = commandsFrom("t7:01")[0]
				}
				if got := toldVerdict(impl.CheckList(l)); got != want {
					t.Errorf("CheckList of %d commands, %s at %d = %s", count, x, at, got)
				}
				heldList(t, l)
			}
		}
	}
	for _, count := range []int{61, 62, 120, 1 << 16} {
		for _, l := range [][]impl.Command{many("t0:02", "w0", count), many("", "!5", count), many("", "r0", count), many("!0 !0 r9", "!0", count), make([]impl.Command, count)} {
			if got := toldVerdict(impl.CheckList(l)); got != "command 0 0" {
				t.Errorf("CheckList of %d commands = %s", count, got)
			}
			if turned, ok := impl.LeastTurns(l); ok || len(turned) > 0 {
				t.Errorf("LeastTurns of %d commands = %s, %v", count, toldCommands(turned), ok)
			}
		}
	}
}

// leastIs: what a list becomes by turns, also with turns of its own, which count for
// nothing.
func leastIs(t *testing.T, text, want string) {
	t.Helper()
	l := commandsFrom(text)
	for _, given := range [][]impl.Command{l, withTurns(l, "t0:12"), withTurns(l, "t7:31"), withTurns(l, "t0:01 t0:13")} {
		if got, ok := impl.LeastTurns(given); toldCommands(got) != want || !ok {
			t.Errorf("LeastTurns(%s) = %s, %v, want %s", toldCommands(given), toldCommands(got), ok, want)
		}
		heldTurned(t, given)
	}
}

// withTurns: ahead of each command and behind the last one.
func withTurns(l []impl.Command, turns string) []impl.Command {
	all := commandsFrom(turns)
	for _, c := range l {
		all = append(append(all, c), commandsFrom(turns)...)
	}
	return all
}

func TestFewestTurns(t *testing.T) {
	t.Parallel()
	leastIs(t, "", "")
	leastIs(t, "t0:02", "")
	leastIs(t, "!0 ?0 !0", "!0 ?0 !0")
	leastIs(t, "r0", "t0:01 r0")
	leastIs(t, "w0", "t0:02 w0")
	leastIs(t, "p0", "t0:03 p0")
	leastIs(t, "t7:32 p7", "t7:03 p7")
	// each state from each other one
	leastIs(t, "w0 r0", "t0:02 w0 t0:21 r0")
	leastIs(t, "w0 p0", "t0:02 w0 t0:23 p0")
	leastIs(t, "p0 r0", "t0:03 p0 t0:31 r0")
	leastIs(t, "p0 w0", "t0:03 p0 t0:32 w0")
	leastIs(t, "r0 w0", "t0:01 r0 t0:12 w0")
	leastIs(t, "r0 p0", "t0:01 r0 t0:13 p0")
	// none where it is in its state already
	leastIs(t, "w0 w0 w0", "t0:02 w0 w0 w0")
	leastIs(t, "r0 r0", "t0:01 r0 r0")
	leastIs(t, "p0 p0 w0 w0 p0", "t0:03 p0 p0 t0:32 w0 w0 t0:23 p0")
	leastIs(t, "w0 t0:21 w0", "t0:02 w0 w0")
	leastIs(t, "t0:02 t0:23 t0:31 w0", "t0:02 w0")
	// right ahead of the one that needs it
	leastIs(t, "w0 !1 ?2 r0", "t0:02 w0 !1 ?2 t0:21 r0")
	leastIs(t, "!1 w0 ?2 w0", "!1 t0:02 w0 ?2 w0")
	leastIs(t, "w0 t0:21 !1 r0", "t0:02 w0 !1 t0:21 r0")
	// several things
	leastIs(t, "w0 w1 r0 r1", "t0:02 w0 t1:02 w1 t0:21 r0 t1:21 r1")
	leastIs(t, "w0 p7 w0 p7 r7 r0", "t0:02 w0 t7:03 p7 w0 p7 t7:31 r7 t0:21 r0")
	leastIs(t, "r0 r1 r2 r3 r4 r5 r6 r7", "t0:01 r0 t1:01 r1 t2:01 r2 t3:01 r3 t4:01 r4 t5:01 r5 t6:01 r6 t7:01 r7")
	if turned, ok := impl.LeastTurns(nil); len(turned) > 0 || !ok {
		t.Errorf("LeastTurns(nil) = %v, %v", turned, ok)
	}
}

func TestAnswersThatGrowTooLong(t *testing.T) {
	t.Parallel()
	long := func(l []impl.Command, want int) {
		t.Helper()
		turned, ok := impl.LeastTurns(l)
		if len(turned) != want || ok != (want > 0) {
			t.Errorf("LeastTurns(%s) has %d commands, %v", toldCommands(l), len(turned), ok)
		}
		heldTurned(t, l)
	}
	long(many("", "w0", 59), 60)
	long(many("", "w0", 60), 0)
	long(many("", "!0", 60), 60)
	long(many("", "?9", 60), 60)
	long(slices.Repeat(commandsFrom("w0 r0"), 15), 60)
	long(append(slices.Repeat(commandsFrom("w0 r0"), 15), commandsFrom("r0")...), 0)
	long(append(slices.Repeat(commandsFrom("w0 r0"), 15), commandsFrom("!0")...), 0)
	long(append(slices.Repeat(commandsFrom("w0 r0"), 15), commandsFrom("w0")...), 0)
	long(slices.Repeat(commandsFrom("w0 r0"), 30), 0)
	long(slices.Repeat(commandsFrom("w0 p1"), 29), 60)
	long(slices.Repeat(commandsFrom("w0 p1"), 30), 0)
	// turns of its own count for its length, not for the answer's
	long(many("w0", "t0:12", 60), 2)
	long(append(many("", "w0", 59), commandsFrom("t0:01")...), 60)
	long(append(many("", "w0", 60), commandsFrom("t0:01")...), 0)
	long(append(slices.Repeat(commandsFrom("t0:23"), 60), commandsFrom("w0")...), 0)
	long(slices.Repeat(commandsFrom("t0:01"), 61), 0)
	if turned, ok := impl.LeastTurns(slices.Repeat(commandsFrom("t0:01"), 60)); len(turned) > 0 || !ok {
		t.Errorf("LeastTurns of 60 turns = %s, %v", toldCommands(turned), ok)
	}
}
