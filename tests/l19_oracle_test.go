package tests

import (
	"slices"

	"loop.example/g00053/impl"
)

// Commands another way: the good ones stand in one list, all 160 of them. What a thing
// is like at a command is looked for upwards from that command; what is done next is
// looked for among all commands, by all that was done; who is ahead of whom is filled
// in by going on from each that is reached; all faults are told, and the first one
// counts. Who needs a turn is told by the command of its thing ahead of it.

func goodCommands() []impl.Command {
	var l []impl.Command
	for number := range 32 {
		l = append(l, impl.Command{Kind: 5, Mark: number}, impl.Command{Kind: 6, Mark: number})
	}
	for number := range 8 {
		for kind := 1; kind <= 3; kind++ {
			l = append(l, impl.Command{Kind: kind, Thing: number})
		}
		for _, way := range [][2]int{{0, 1}, {0, 2}, {0, 3}, {1, 2}, {1, 3}, {2, 1}, {2, 3}, {3, 1}, {3, 2}} {
			l = append(l, impl.Command{Kind: 4, Thing: number, From: way[0], To: way[1]})
		}
	}
	return l
}

var commandsThatAreGood = goodCommands()

var isGoodCommand = func() map[impl.Command]bool {
	is := map[impl.Command]bool{}
	for _, c := range commandsThatAreGood {
		is[c] = true
	}
	return is
}()

func wantCommand(c impl.Command) bool { return isGoodCommand[c] }

// stateAhead: of a thing ahead of a number.
func stateAhead(l []impl.Command, at, thing int) int {
	for _, c := range slices.Backward(l[:at]) {
		if c.Kind == 4 && c.Thing == thing {
			return c.To
		}
	}
	return 0
}

func writtenAhead(l []impl.Command, at, thing int) bool {
	for _, c := range slices.Backward(l[:at]) {
		if c.Thing == thing && (c.Kind == 2 || c.Kind == 3) {
			return true
		}
		if c.Thing == thing && c.Kind == 4 && c.From == 0 {
			return false
		}
	}
	return false
}

// faultsAt: all that is wrong with one command.
func faultsAt(l []impl.Command, at int) []int {
	c := l[at]
	if !wantCommand(c) {
		return []int{impl.BadCommand}
	}
	var faults []int
	if c.Kind <= 3 && stateAhead(l, at, c.Thing) != c.Kind {
		faults = append(faults, impl.BadState)
	}
	if c.Kind == 4 && stateAhead(l, at, c.Thing) != c.From {
		faults = append(faults, impl.BadFrom)
	}
	if c.Kind == 1 && !writtenAhead(l, at, c.Thing) {
		faults = append(faults, impl.BadFresh)
	}
	return faults
}

// faultOfAny: of a list of any length.
func faultOfAny(l []impl.Command) impl.Verdict {
	for at := range l {
		if faults := faultsAt(l, at); len(faults) > 0 {
			return impl.Verdict{Code: faults[0], At: at}
		}
	}
	return impl.Verdict{}
}

func wantList(l []impl.Command) impl.Verdict {
	if len(l) > 60 {
		return impl.Verdict{Code: impl.BadCommand}
	}
	return faultOfAny(l)
}

// plan: all commands of some queues, by queue and number.
type plan struct {
	queues [][]impl.Command
	all    [][2]int
}

func planOf(queues [][]impl.Command) *plan {
	p := &plan{queues: queues}
	for queue, l := range queues {
		for number := range l {
			p.all = append(p.all, [2]int{queue, number})
		}
	}
	return p
}

func (p *plan) command(at [2]int) impl.Command { return p.queues[at[0]][at[1]] }

func (p *plan) inOrder(order [][2]int) []impl.Command {
	var l []impl.Command
	for _, at := range order {
		l = append(l, p.command(at))
	}
	return l
}

// isNext: whether one can be done behind these.
func (p *plan) isNext(done [][2]int, at [2]int) bool {
	ahead, signalled := 0, false
	for _, other := range done {
		if other[0] == at[0] {
			ahead++
		}
		if c := p.command(other); c.Kind == 5 && c.Mark == p.command(at).Mark {
			signalled = true
		}
	}
	return ahead == at[1] && (p.command(at).Kind != 6 || signalled)
}

// nexts: all that can be done behind these.
func (p *plan) nexts(done [][2]int) [][2]int {
	var l [][2]int
	for _, at := range p.all {
		if p.isNext(done, at) {
			l = append(l, at)
		}
	}
	return l
}

// play: what is done in the end, where one of those that can be done is chosen.
func (p *plan) play(choose func([][2]int) [2]int) [][2]int {
	var done [][2]int
	for {
		nexts := p.nexts(done)
		if len(nexts) == 0 {
			return done
		}
		done = append(done, choose(nexts))
	}
}

func (p *plan) playFirst() [][2]int {
	return p.play(func(nexts [][2]int) [2]int { return nexts[0] })
}

// ways: for each two whether there is one from the first to the second, by their
// places among all.
func (p *plan) ways() [][]bool {
	ways := make([][]bool, len(p.all))
	for a, at := range p.all {
		ways[a] = make([]bool, len(p.all))
		for b, other := range p.all {
			c, d := p.command(at), p.command(other)
			ways[a][b] = other == [2]int{at[0], at[1] + 1} || c.Kind == 5 && d.Kind == 6 && c.Mark == d.Mark
		}
	}
	for by := range p.all {
		for a := range p.all {
			if ways[a][by] {
				for b, on := range ways[by] {
					ways[a][b] = ways[a][b] || on
				}
			}
		}
	}
	return ways
}

// commandFaults: where queues are not as said; the first one of each sort is told first.
func (p *plan) commandFaults() []impl.Verdict {
	fault := func(at [2]int) impl.Verdict {
		return impl.Verdict{Code: impl.BadCommand, Queue: at[0], At: at[1]}
	}
	var l []impl.Verdict
	for _, at := range p.all {
		if !wantCommand(p.command(at)) || at[1] == 60 {
			l = append(l, fault(at))
		}
	}
	if len(p.queues) > 3 {
		l = append(l, impl.Verdict{Code: impl.BadCommand})
	}
	if len(l) > 0 {
		return l
	}
	signals := slices.DeleteFunc(slices.Clone(p.all), func(at [2]int) bool { return p.command(at).Kind != 5 })
	for a, at := range signals {
		for _, other := range signals[:a] {
			if p.command(at).Mark == p.command(other).Mark {
				l = append(l, fault(at))
			}
		}
	}
	return l
}

func (p *plan) areAsSaid() bool { return len(p.commandFaults()) == 0 }

func (p *plan) stuckFaults() []impl.Verdict {
	done := p.playFirst()
	for _, at := range p.all {
		if !slices.Contains(done, at) {
			return []impl.Verdict{{Code: impl.BadStuck, Queue: at[0], At: at[1]}}
		}
	}
	return nil
}

func (p *plan) raceFaults() []impl.Verdict {
	var l []impl.Verdict
	ways := p.ways()
	for a, at := range p.all {
		for b, other := range p.all {
			c, d := p.command(at), p.command(other)
			apart := at[0] < other[0] && !ways[a][b] && !ways[b][a]
			if apart && c.Kind < 5 && d.Kind < 5 && c.Thing == d.Thing && c.Kind+d.Kind > 2 {
				l = append(l, impl.Verdict{Code: impl.BadRace, Queue: at[0], At: at[1], Other: 64*other[0] + other[1]})
			}
		}
	}
	return l
}

func (p *plan) listFaults() []impl.Verdict {
	order := p.playFirst()
	v := faultOfAny(p.inOrder(order))
	if v.Code == 0 {
		return nil
	}
	return []impl.Verdict{{Code: v.Code, Queue: order[v.At][0], At: order[v.At][1]}}
}

func wantPlayed(queues [][]impl.Command) ([][2]int, bool) {
	p := planOf(queues)
	if !p.areAsSaid() {
		return nil, false
	}
	order := p.playFirst()
	return order, len(order) == len(p.all)
}

func wantAheadOf(queues [][]impl.Command, a, b []int) bool {
	p := planOf(queues)
	if len(a) != 2 || len(b) != 2 || slices.Equal(a, b) || !p.areAsSaid() {
		return false
	}
	from, to := slices.Index(p.all, [2]int(a)), slices.Index(p.all, [2]int(b))
	return from >= 0 && to >= 0 && p.ways()[from][to]
}

func wantQueues(queues [][]impl.Command) impl.Verdict {
	p := planOf(queues)
	for _, look := range []func() []impl.Verdict{p.commandFaults, p.stuckFaults, p.raceFaults, p.listFaults} {
		if faults := look(); len(faults) > 0 {
			return faults[0]
		}
	}
	return impl.Verdict{}
}

func wantLeastTurns(l []impl.Command) ([]impl.Command, bool) {
	if len(l) > 60 || slices.ContainsFunc(l, func(c impl.Command) bool { return !wantCommand(c) }) {
		return nil, false
	}
	var turned []impl.Command
	for at, c := range l {
		from := 0
		for _, other := range l[:at] {
			if other.Kind <= 3 && other.Thing == c.Thing {
				from = other.Kind
			}
		}
		if c.Kind <= 3 && from != c.Kind {
			turned = append(turned, impl.Command{Kind: 4, Thing: c.Thing, From: from, To: c.Kind})
		}
		if c.Kind != 4 {
			turned = append(turned, c)
		}
	}
	if len(turned) > 60 {
		return nil, false
	}
	return turned, true
}
