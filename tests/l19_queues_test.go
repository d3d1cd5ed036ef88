package tests

import (
	"math"
	"slices"
	"strconv"
	"strings"
	"testing"

	"loop.example/g00053/impl"
)

// The edges that chapter 19 names of queues, with what is answered written out.

// toldPairs: queue and number, with a point between.
func toldPairs(l [][]int) string {
	var told []string
	for _, pair := range l {
		told = append(told, strings.ReplaceAll(toldNumbers(pair), " ", "."))
	}
	return strings.Join(told, " ")
}

// playIs: what is done in which order, and whether that is all.
func playIs(t *testing.T, queues [][]impl.Command, want string, all bool) {
	t.Helper()
	got, ok := impl.PlayQueues(queues)
	if toldPairs(got) != want || ok != all {
		t.Errorf("PlayQueues(%s) = %s, %v, want %s, %v", toldQueues(queues), toldPairs(got), ok, want, all)
	}
	heldPlayed(t, queues)
	heldQueues(t, queues)
	heldAllAhead(t, queues)
}

func TestPlayingQueues(t *testing.T) {
	t.Parallel()
	playIs(t, nil, "", true)
	playIs(t, [][]impl.Command{}, "", true)
	playIs(t, [][]impl.Command{nil}, "", true)
	playIs(t, [][]impl.Command{nil, {}, nil}, "", true)
	for text, want := range map[string]string{
		"r0":              "0.0",
		"r0 w1 p2":        "0.0 0.1 0.2",
		"r0 | w1":         "0.0 1.0",
		"r0 w1 | p2 | r3": "0.0 0.1 1.0 2.0",
		" | r0":           "1.0",
		" | | r0 r0":      "2.0 2.1",
		"r0 | | r0":       "0.0 2.0",
		// no fault of a list stands in the way
		"r0 t0:32 | w0 | t0:12 p0": "0.0 0.1 1.0 2.0 2.1",
		// signalled ahead of who waits, and behind
		"!3 | ?3":             "0.0 1.0",
		"?3 | !3":             "1.0 0.0",
		"w0 !3 w0 | ?3 r0":    "0.0 0.1 0.2 1.0 1.1",
		"?3 r0 | w0 !3 w0":    "1.0 1.1 0.0 0.1 1.2",
		"?3 r0 | w0 | !3 w1":  "1.0 2.0 0.0 0.1 2.1",
		"?31 | | !31":         "2.0 0.0",
		"!0 ?0":               "0.0 0.1",
		"!0 ?0 ?0 | ?0 | ?0":  "0.0 0.1 0.2 1.0 2.0",
		"?1 w0 | ?1 w1 | !1":  "2.0 0.0 0.1 1.0 1.1",
		"w0 ?1 | ?1 w1 | !1":  "0.0 2.0 0.1 1.0 1.1",
		"?1 ?1 ?1 | w1 !1 w1": "1.0 1.1 0.0 0.1 0.2 1.2",
		// the first queue goes on as soon as it can
		"?0 w0 ?1 w0 | !0 w1 !1 w1":      "1.0 0.0 0.1 1.1 1.2 0.2 0.3 1.3",
		"?0 w0 | ?1 !0 w1 | !1 w2":       "2.0 1.0 1.1 0.0 0.1 1.2 2.1",
		"?2 | ?1 !2 w1 | w2 !1 w2":       "2.0 2.1 1.0 1.1 0.0 1.2 2.2",
		"!0 ?1 !2 ?3 | ?0 !1 ?2 !3":      "0.0 1.0 1.1 0.1 0.2 1.2 1.3 0.3",
		"?1 !0 | !1 ?0 !2 | ?2 r0 ?0 r0": "1.0 0.0 0.1 1.1 1.2 2.0 2.1 2.2 2.3",
	} {
		playIs(t, queuesFrom(text), want, true)
	}
}

func TestQueuesThatAreStuck(t *testing.T) {
	t.Parallel()
	for text, want := range map[string]string{
		// by nobody
		"?0":                "",
		"w0 ?0 w0":          "0.0",
		"?0 | w1 ?1 | w2":   "1.0 2.0",
		"?0 | !1 ?1 ?2 !3":  "1.0 1.1",
		"?4 | !5 !6 !3":     "1.0 1.1 1.2",
		"w0 ?4 | ?4 | w2":   "0.0 2.0",
		"w0 w0 | w1 ?4 w1 ": "0.0 0.1 1.0",
		// in the same queue behind who waits
		"?0 !0":         "",
		"w0 ?0 !0 | ?0": "0.0",
		"?0 !0 | w1":    "1.0",
		// each other
		"?0 !1 | ?1 !0":               "",
		"w0 ?0 !1 | w1 ?1 !0 | w2":    "0.0 1.0 2.0",
		"?0 !1 | ?1 !2 | ?2 !0":       "",
		"?0 !1 | ?1 !2 | w2 ?2 !0":    "2.0",
		"!3 ?0 !1 | ?3 ?1 !0 | ?3 w0": "0.0 1.0 2.0 2.1",
		"?3 ?0 !1 | ?3 ?1 !0 | w0 !3": "2.0 2.1 0.0 1.0",
		"?0 w0 | !0 ?1 w0 | w1 ?2 !1": "1.0 0.0 0.1 2.0",
	} {
		queues := queuesFrom(text)
		playIs(t, queues, want, false)
		if v := impl.CheckQueues(queues); v.Code != impl.BadStuck {
			t.Errorf("CheckQueues(%s) = %v", text, v)
		}
	}
}

func TestLongQueues(t *testing.T) {
	t.Parallel()
	for _, count := range []int{59, 60} {
		full := many("", "r0", count)
		for place := range 3 {
			for others := range 2 {
				queues := slices.Repeat([][]impl.Command{slices.Repeat(full, others)}, 3)
				queues[place] = full
				pairs, all := impl.PlayQueues(queues)
				if want := count * (1 + 2*others); len(pairs) != want || !all {
					t.Errorf("of %d commands %d are done, %v", want, len(pairs), all)
				}
				if place == 1 {
					heldPlayed(t, queues)
					heldQueues(t, queues)
				}
				last := []int{place, count - 1}
				if !impl.AheadOf(queues, []int{place, 0}, last) || impl.AheadOf(queues, last, []int{place, 0}) {
					t.Errorf("AheadOf in queue %d of %d commands", place, count)
				}
			}
		}
	}
	for _, count := range []int{61, 62, 1 << 16} {
		for place, want := range []string{"command 0 60", "command 1 60", "command 2 60"} {
			queues := [][]impl.Command{commandsFrom("w0 w0"), commandsFrom("!1"), commandsFrom("?1")}
			queues[place] = many("w0 w0", "!2", count)
			refusedQueues(t, queues, want)
		}
	}
}

func TestTooManyQueues(t *testing.T) {
	t.Parallel()
	for count := range 4 {
		queues := slices.Repeat([][]impl.Command{commandsFrom("t0:01")}, count)
		if pairs, all := impl.PlayQueues(queues); len(pairs) != count || !all {
			t.Errorf("of %d queues %v is done, %v", count, pairs, all)
		}
		if pairs, all := impl.PlayQueues(make([][]impl.Command, count)); len(pairs) != 0 || !all {
			t.Errorf("of %d empty queues %v is done, %v", count, pairs, all)
		}
		if v := impl.CheckQueues(make([][]impl.Command, count)); v != (impl.Verdict{}) {
			t.Errorf("of %d empty queues CheckQueues tells %v", count, v)
		}
	}
	for _, count := range []int{4, 5, 64, 1 << 16} {
		refusedQueues(t, make([][]impl.Command, count), "command 0 0")
		refusedQueues(t, slices.Repeat([][]impl.Command{commandsFrom("t0:02 w0")}, count), "command 0 0")
		refusedQueues(t, append([][]impl.Command{commandsFrom("t0:02 w0")}, make([][]impl.Command, count-1)...), "command 0 0")
	}
}

func TestMarksThatAreSignalledTwice(t *testing.T) {
	t.Parallel()
	for text, want := range map[string]string{
		"!0 !0":                 "command 0 1",
		"!31 w0 !31 w0 !31":     "command 0 2",
		"!0 | !0":               "command 1 0",
		"!0 | w0 | w1 !0":       "command 2 1",
		"w0 | !0 | !0 !0":       "command 2 0",
		"w0 | !0 !0 | !0 !0":    "command 1 1",
		"!0 !1 !2 | !3 !2 | !1": "command 1 1",
		"!0 !1 !1 !0":           "command 0 2",
		"!1 !0 !1 !0":           "command 0 2",
		"!5 | !6 | !6 !5":       "command 2 0",
		"!5 | !6 | !5 !6":       "command 2 0",
		// whoever waits
		"!0 ?0 !0":        "command 0 2",
		"?0 | !0 | ?0 !0": "command 2 1",
	} {
		refusedQueues(t, queuesFrom(text), want)
	}
	for _, text := range []string{"!0 !1 | !2 !3 | !4", "!0 ?0 ?0 | ?0"} {
		if v := impl.CheckQueues(queuesFrom(text)); v != (impl.Verdict{}) {
			t.Errorf("CheckQueues(%s) = %v", text, v)
		}
	}
	var each []impl.Command
	for mark := range 32 {
		each = append(each, impl.Command{Kind: impl.CmdSignal, Mark: mark})
	}
	if v := impl.CheckQueues([][]impl.Command{each}); v != (impl.Verdict{}) {
		t.Errorf("of all marks signalled once CheckQueues tells %v", v)
	}
	for mark := range 32 {
		refusedQueues(t, [][]impl.Command{each, each[mark : mark+1]}, "command 1 0")
	}
}

// aheadIs: of pairs such as `0.1<1.0`, each one, and of no other two.
func aheadIs(t *testing.T, text, want string) {
	t.Helper()
	queues := queuesFrom(text)
	var told []string
	p := planOf(queues)
	for _, a := range p.all {
		for _, b := range p.all {
			if impl.AheadOf(queues, a[:], b[:]) {
				told = append(told, toldPairs([][]int{a[:]})+"<"+toldPairs([][]int{b[:]}))
			}
		}
	}
	if got := strings.Join(told, " "); got != want {
		t.Errorf("AheadOf in %s: %s, want %s", text, got, want)
	}
	heldAllAhead(t, queues)
}

func TestWhoIsAhead(t *testing.T) {
	t.Parallel()
	aheadIs(t, "", "")
	aheadIs(t, "w0", "")
	aheadIs(t, "w0 w0", "0.0<0.1")
	aheadIs(t, "w0 r0 p7", "0.0<0.1 0.0<0.2 0.1<0.2")
	aheadIs(t, "w0 | w0 | w0", "")
	aheadIs(t, "w0 w0 | | w0 w0", "0.0<0.1 2.0<2.1")
	// by one mark
	aheadIs(t, "!0 | ?0", "0.0<1.0")
	aheadIs(t, "?0 | !0", "1.0<0.0")
	aheadIs(t, "!0 | ?1", "")
	aheadIs(t, "w0 !0 w0 | w1 ?0 w1", "0.0<0.1 0.0<0.2 0.0<1.1 0.0<1.2 0.1<0.2 0.1<1.1 0.1<1.2 1.0<1.1 1.0<1.2 1.1<1.2")
	aheadIs(t, "!0 | ?0 | ?0", "0.0<1.0 0.0<2.0")
	aheadIs(t, "!0 ?0 | w0", "0.0<0.1")
	// by two, and by three
	aheadIs(t, "!0 | ?0 !1 | ?1", "0.0<1.0 0.0<1.1 0.0<2.0 1.0<1.1 1.0<2.0 1.1<2.0")
	aheadIs(t, "!0 | !1 ?0 | ?1", "0.0<1.1 1.0<1.1 1.0<2.0")
	aheadIs(t, "?1 | ?0 !1 | !0", "1.0<0.0 1.0<1.1 1.1<0.0 2.0<0.0 2.0<1.0 2.0<1.1")
	aheadIs(t, "!0 ?1 | ?0 !1", "0.0<0.1 0.0<1.0 0.0<1.1 1.0<0.1 1.0<1.1 1.1<0.1")
	aheadIs(t, "!0 w0 ?2 | ?0 !1 | ?1 !2", "0.0<0.1 0.0<0.2 0.0<1.0 0.0<1.1 0.0<2.0 0.0<2.1 0.1<0.2 1.0<0.2 1.0<1.1 1.0<2.0 1.0<2.1 1.1<0.2 1.1<2.0 1.1<2.1 2.0<0.2 2.0<2.1 2.1<0.2")
	// the first and the last one that waits
	aheadIs(t, "!0 | w0 ?0 ?0", "0.0<1.1 0.0<1.2 1.0<1.1 1.0<1.2 1.1<1.2")
	// a mark that nobody signals
	aheadIs(t, "?0 w0 | ?0", "0.0<0.1")
	aheadIs(t, "!1 ?0 | ?1", "0.0<0.1 0.0<1.0")
	// queues that wait for each other: by steps each is ahead of the other one
	aheadIs(t, "?0 !0", "0.0<0.1 0.1<0.0")
	aheadIs(t, "?0 !1 | ?1 !0", "0.0<0.1 0.0<1.0 0.0<1.1 0.1<0.0 0.1<1.0 0.1<1.1 1.0<0.0 1.0<0.1 1.0<1.1 1.1<0.0 1.1<0.1 1.1<1.0")
	aheadIs(t, "w0 ?0 !0 w0", "0.0<0.1 0.0<0.2 0.0<0.3 0.1<0.2 0.1<0.3 0.2<0.1 0.2<0.3")
}

func TestPairsThatAreNone(t *testing.T) {
	t.Parallel()
	queues := queuesFrom("w0 w0 !0 | | ?0 r0")
	good := [][]int{{0, 0}, {0, 2}, {2, 0}, {2, 1}}
	wrong := [][]int{nil, {}, {0}, {2}, {0, 0, 0}, {2, 1, 0}, {0, 3}, {1, 0}, {2, 2}, {3, 0}, {0, -1}, {-1, 0}, {2, -1}, {-1, -1}, make([]int, 1<<16)}
	for _, n := range []int{math.MinInt, math.MinInt + 1, -1 << 32, -64, 4, 60, 64, 1 << 32, 1<<32 + 1, 1 << 62, math.MaxInt - 1, math.MaxInt} {
		wrong = append(wrong, []int{n, 0}, []int{0, n}, []int{2, n}, []int{n, n})
	}
	for _, pair := range wrong {
		for _, other := range append(good, wrong...) {
			if impl.AheadOf(queues, pair, other) || impl.AheadOf(queues, other, pair) {
				t.Errorf("AheadOf(%v, %v)", pair, other)
			}
		}
		heldAheadOf(t, queues, pair, good[0])
	}
	for at, pair := range good {
		for to, other := range good {
			if got := impl.AheadOf(queues, pair, other); got != (at < to) {
				t.Errorf("AheadOf(%v, %v) = %v", pair, other, got)
			}
		}
	}
	for _, none := range [][][]impl.Command{nil, {}, {nil}, {nil, nil, nil}} {
		if impl.AheadOf(none, []int{0, 0}, []int{0, 0}) || impl.AheadOf(none, nil, nil) {
			t.Errorf("AheadOf in %v", none)
		}
	}
	// queues that are not as said
	for _, text := range []string{"w0 w0 r9", "w0 w0 !0 !0", "w0 w0 | | | ", "w0 w0 !0 | ?0 | !0"} {
		if impl.AheadOf(queuesFrom(text), []int{0, 0}, []int{0, 1}) {
			t.Errorf("AheadOf in %s", text)
		}
	}
	for _, long := range []int{61, 62} {
		for _, queues := range [][][]impl.Command{{many("", "r0", long)}, {commandsFrom("r0 r0"), nil, many("", "r0", long)}} {
			if impl.AheadOf(queues, []int{0, 0}, []int{0, 1}) {
				t.Errorf("AheadOf with a queue of %d commands", long)
			}
		}
	}
}

// verdictIs: what is wrong with queues first.
func verdictIs(t *testing.T, text, want string) {
	t.Helper()
	queues := queuesFrom(text)
	if got := toldVerdict(impl.CheckQueues(queues)); got != want {
		t.Errorf("CheckQueues(%s) = %s, want %s", text, got, want)
	}
	heldQueues(t, queues)
	heldPlayed(t, queues)
	heldAllAhead(t, queues)
}

func TestQueuesWithoutFaults(t *testing.T) {
	t.Parallel()
	for _, text := range []string{
		"", " | | ", "t0:02 w0 t0:21 r0", " | t0:02 w0", "t0:02 w0 | t1:02 w1 | t2:03 p2",
		"t0:02 w0 !3 | ?3 t0:21 r0", "?3 t0:21 r0 | t0:02 w0 !3",
		"t0:02 w0 t0:21 !0 | ?0 r0 | ?0 r0", "t0:02 w0 t0:21 !0 r0 | ?0 r0 | ?0 r0 r0",
		"t0:02 w0 !0 ?1 t0:21 r0 | ?0 w0 w0 !1", "t0:02 !0 | ?0 w0 !1 | ?1 t0:23 p0",
		"?9 r0 | ?8 t0:21 !9 | t0:02 w0 !8", "!0 | !1 ?0 | ?1",
		"t0:02 w0 t0:21 r0 !0 r0 | ?0 r0 !1 | ?1 r0",
	} {
		verdictIs(t, text, "")
	}
}

func TestStuckQueues(t *testing.T) {
	t.Parallel()
	verdictIs(t, "?0", "stuck 0 0")
	verdictIs(t, "t0:02 w0 ?0", "stuck 0 2")
	verdictIs(t, "!1 ?0 !0", "stuck 0 1")
	verdictIs(t, " | ?0", "stuck 1 0")
	verdictIs(t, "t0:02 | !1 ?1 ?2", "stuck 1 2")
	verdictIs(t, "t0:02 | t1:02 | t2:02 ?2 w2", "stuck 2 1")
	// the first of several queues, whatever it waits for
	verdictIs(t, "t0:02 ?0 | ?1", "stuck 0 1")
	verdictIs(t, "?0 !1 | ?1 !0", "stuck 0 0")
	verdictIs(t, "t0:02 ?0 !1 | ?1 !0", "stuck 0 1")
	verdictIs(t, "t0:02 | !2 ?0 !1 | ?1 !0", "stuck 1 1")
	verdictIs(t, "!2 ?0 ?2 | ?2 ?1 | ?2", "stuck 0 1")
	verdictIs(t, "!2 | ?2 ?1 | ?2 ?1 !1", "stuck 1 1")
}

func TestRacesOfQueues(t *testing.T) {
	t.Parallel()
	words := map[string]string{"r": "r0", "w": "w0", "p": "p0", "t": "t0:02"}
	for one, a := range words {
		for other, b := range words {
			want := "race 0 0 with 1 0"
			if one == "r" && other == "r" {
				want = "state 0 0"
			}
			verdictIs(t, a+" | "+b, want)
			verdictIs(t, a+" | | "+b, strings.Replace(want, "with 1", "with 2", 1))
			verdictIs(t, " | "+a+" | "+b, strings.Replace(strings.Replace(want, "0 0 with 1", "1 0 with 2", 1), "state 0 0", "state 1 0", 1))
			// in one queue, or of unlike things there is none
			if v := impl.CheckQueues(queuesFrom(a + " " + b)); v.Code == impl.BadRace {
				t.Errorf("%s and %s in one queue race", a, b)
			}
			if v := impl.CheckQueues(queuesFrom(a + " | " + strings.Replace(b, "0", "1", 1))); v.Code == impl.BadRace {
				t.Errorf("%s and %s of unlike things race", a, b)
			}
			// with a mark between, either way
			for _, text := range []string{a + " !4 | ?4 " + b, "?4 " + a + " | " + b + " !4", a + " !4 | ?4 !5 | ?5 " + b} {
				if v := impl.CheckQueues(queuesFrom(text)); v.Code == impl.BadRace {
					t.Errorf("%s races: %v", text, v)
				}
			}
			// a mark that is signalled ahead, or waited for behind, is not between
			if one != "r" || other != "r" {
				verdictIs(t, "!4 "+a+" | ?4 "+b, "race 0 1 with 1 1")
				verdictIs(t, a+" !4 | "+b+" ?4", "race 0 0 with 1 0")
				verdictIs(t, "!4 "+a+" | "+b+" ?4", "race 0 1 with 1 0")
			}
		}
	}
	// marks are no things
	verdictIs(t, "!0 | !1 | !2", "")
	verdictIs(t, "!0 ?0 | ?0 !1 | ?1 ?0", "")
	verdictIs(t, "t0:02 w0 | !0 | ?0", "")
}

func TestWhichRaceIsFirst(t *testing.T) {
	t.Parallel()
	// the first one by its queue and number
	verdictIs(t, "t1:02 w0 | w1 w0", "race 0 0 with 1 0")
	verdictIs(t, "t1:02 w0 | w0 w1", "race 0 0 with 1 1")
	verdictIs(t, "t2:02 w0 w1 | w1 w0", "race 0 1 with 1 1")
	verdictIs(t, "t2:02 w2 | t0:02 w0 | t1:02 w0", "race 1 0 with 2 1")
	verdictIs(t, "t2:02 w2 t2:21 | t0:02 w0 | t1:02 w0 w2", "race 0 0 with 2 2")
	// then the first other one of a later queue
	verdictIs(t, "w0 | r0 | w0", "race 0 0 with 1 0")
	verdictIs(t, "w0 | r1 r0 | w0", "race 0 0 with 1 1")
	verdictIs(t, "w0 | r1 | w0", "race 0 0 with 2 0")
	verdictIs(t, "r0 | r0 | w0", "race 0 0 with 2 0")
	verdictIs(t, "r0 r0 | r0 r0 w0 | r0", "race 0 0 with 1 2")
	verdictIs(t, "r0 !1 | ?1 w0 | w0", "race 0 0 with 2 0")
	verdictIs(t, "r0 !1 | ?1 w0 !2 | w0 ?2", "race 0 0 with 2 0")
	verdictIs(t, "r0 !1 | ?1 w0 !2 | ?2 w0 ?3 | ", "command 0 0")
	verdictIs(t, "r0 !1 r0 | ?1 w0 !2 | ?2 w0", "race 0 2 with 1 1")
	verdictIs(t, "r0 !1 ?2 r0 | ?1 w0 !2 w0 | ?2 w0", "race 0 3 with 1 3")
	verdictIs(t, "!1 ?2 w0 | ?1 w0 !2 ?3 w0 | !3 w1", "race 0 2 with 1 4")
	// what races is not what lies ahead by queue and number
	verdictIs(t, "?0 w0 | w1 | t0:02 w0 !0 w0", "race 0 1 with 2 3")
	long := [][]impl.Command{many("t0:02", "w0", 60), many("", "?0", 59), many("!0", "r7", 60)}
	long[1] = append(long[1], commandsFrom("w0")...)
	if v, want := impl.CheckQueues(long), (impl.Verdict{Code: impl.BadRace, Other: 64 + 59}); v != want {
		t.Errorf("CheckQueues of long ones = %v", v)
	}
	long[1][59].Thing = 7
	if v, want := impl.CheckQueues(long), (impl.Verdict{Code: impl.BadRace, Queue: 1, At: 59, Other: 128 + 1}); v != want {
		t.Errorf("CheckQueues of long ones = %v", v)
	}
	long[1][59].Thing, long[2][59] = 1, commandsFrom("w1")[0]
	if v, want := impl.CheckQueues(long), (impl.Verdict{Code: impl.BadRace, Queue: 1, At: 59, Other: 128 + 59}); v != want {
		t.Errorf("CheckQueues of long ones = %v", v)
	}
}

// Faults of the list that comes of playing, told by queue and number.
func TestFaultsInTheOrderOfPlaying(t *testing.T) {
	t.Parallel()
	verdictIs(t, "w0", "state 0 0")
	verdictIs(t, "t0:01 r0", "fresh 0 1")
	verdictIs(t, "t0:12", "from 0 0")
	verdictIs(t, "t1:02 w1 | t0:02 w0 r0", "state 1 2")
	verdictIs(t, "t1:02 w1 | | t0:23", "from 2 0")
	verdictIs(t, "t1:02 | | t2:02 t0:01 r0", "fresh 2 2")
	// what is done first has the first fault, whatever its queue is
	verdictIs(t, "w0 | w1", "state 0 0")
	verdictIs(t, "?0 w0 | w1 !0", "state 1 0")
	verdictIs(t, "?0 w0 | ?1 t1:12 | r2 !0 !1", "state 2 0")
	verdictIs(t, "?0 w0 | ?1 t1:12 | !0 r2 !1", "state 0 1")
	verdictIs(t, "?0 w0 | ?1 t1:12 | !1 r2 !0", "from 1 1")
	verdictIs(t, "t0:02 w0 !0 | ?0 r0", "state 1 1")
	verdictIs(t, "t0:02 w0 !0 | ?0 t0:31 r0", "from 1 1")
	verdictIs(t, "t0:02 !0 | ?0 t0:21 r0", "fresh 1 2")
	verdictIs(t, "?0 t0:21 r0 | t0:02 !0", "fresh 0 2")
	verdictIs(t, "?0 t0:21 r0 !1 | t0:02 w0 !0 ?1 w0", "state 1 4")
	verdictIs(t, "?0 t0:21 r0 !1 | t0:02 w0 !0 ?1 t0:12 w0", "")
	// reads of several queues do not race, but they have faults
	verdictIs(t, "r0 | r0", "state 0 0")
	verdictIs(t, "?0 r0 | !0 r0", "state 0 1")
	verdictIs(t, "?0 r0 | t0:01 !0 r0", "fresh 0 1")
	verdictIs(t, "?0 ?1 r0 | t0:01 !0 r0 !1", "fresh 1 2")
}

// Of each two kinds of faults the one that is told first.
func TestWhichFaultOfQueuesIsFirst(t *testing.T) {
	t.Parallel()
	wrong := "r9"
	long := strings.Repeat(" r7", 61)
	// a command that is not good, or one too many, by queue and number
	verdictIs(t, "w0 "+wrong+" | "+wrong, "command 0 1")
	verdictIs(t, "w0 | w0 w0 "+wrong+" | "+wrong, "command 1 2")
	verdictIs(t, long+" | "+wrong, "command 0 60")
	verdictIs(t, "w0 "+wrong+" | "+long, "command 0 1")
	verdictIs(t, wrong+long, "command 0 0")
	verdictIs(t, strings.Repeat(" r7", 59)+" "+wrong+long, "command 0 59")
	verdictIs(t, strings.Repeat(" r7", 60)+" "+wrong, "command 0 60")
	verdictIs(t, long+" "+wrong, "command 0 60")
	verdictIs(t, "w0 | "+long+" | "+long, "command 1 60")
	// then too many queues
	verdictIs(t, "w0 | w0 | w0 | w0", "command 0 0")
	verdictIs(t, "w0 | w0 | w0 "+wrong+" | w0", "command 2 1")
	verdictIs(t, "w0 | w0 | w0 | w0 w0 "+wrong, "command 3 2")
	verdictIs(t, "w0 | w0 | "+long+" | w0", "command 2 60")
	verdictIs(t, "w0 | w0 | w0 | "+long, "command 3 60")
	// then marks
	verdictIs(t, "!0 !0 | w0 | w0 | w0", "command 0 0")
	verdictIs(t, "w0 !0 !0 | "+wrong, "command 1 0")
	verdictIs(t, "w0 !0 !0 "+wrong, "command 0 3")
	verdictIs(t, "w0 !0 !0 | "+long, "command 1 60")
	verdictIs(t, "w0 !0 !0 | ?1", "command 0 2")
	verdictIs(t, "?1 | w0 !0 !0", "command 1 2")
	verdictIs(t, "w0 | w0 !0 !0", "command 1 2")
	verdictIs(t, "r0 !0 !0", "command 0 2")
	// then those that are stuck
	verdictIs(t, "?1 | "+wrong, "command 1 0")
	verdictIs(t, "?1 | w0 | w0 | w0", "command 0 0")
	verdictIs(t, "w0 | w0 | ?1", "stuck 2 0")
	verdictIs(t, "r0 w1 t2:31 | ?1", "stuck 1 0")
	verdictIs(t, "w0 ?1 | w0 ?1", "stuck 0 1")
	// then races
	verdictIs(t, "w0 | w0 "+wrong, "command 1 1")
	verdictIs(t, "r1 t2:31 w0 | w0", "race 0 2 with 1 0")
	verdictIs(t, "t0:01 r0 r0 w1 | w1", "race 0 3 with 1 0")
	verdictIs(t, "t2:13 | r0 | r0 t1:02 t0:02", "race 1 0 with 2 2")
	// then the list's faults, in order
	verdictIs(t, "r0 | w1", "state 0 0")
	verdictIs(t, "t0:12 | w1", "from 0 0")
	verdictIs(t, "t0:01 r0 | w1", "fresh 0 1")
}

// In all there may be more commands than in one list.
func TestManyCommandsInAllQueues(t *testing.T) {
	t.Parallel()
	queues := [][]impl.Command{many("t0:02", "w0", 60), many("t1:03", "p1", 60), many("t2:02 w2 t2:21", "r2", 60)}
	if v := impl.CheckQueues(queues); v != (impl.Verdict{}) {
		t.Errorf("CheckQueues of three full ones = %v", v)
	}
	for queue := range queues {
		for _, at := range []int{1, 30, 59} {
			wrong := slices.Clone(queues)
			wrong[queue] = slices.Clone(queues[queue])
			wrong[queue][at] = commandsFrom("w5")[0]
			if got, want := toldVerdict(impl.CheckQueues(wrong)), "state "+toldNumbers([]int{queue, at}); got != want {
				t.Errorf("CheckQueues of three full ones = %s, want %s", got, want)
			}
			wrong[queue][at] = commandsFrom("?" + strconv.Itoa(at%32))[0]
			if got, want := toldVerdict(impl.CheckQueues(wrong)), "stuck "+toldNumbers([]int{queue, at}); got != want {
				t.Errorf("CheckQueues of three full ones = %s, want %s", got, want)
			}
		}
	}
}
