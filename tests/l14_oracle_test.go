package tests

import (
	"slices"
	"strconv"

	"loop.example/g00053/impl"
)

// Schedules another way: an instruction reads and writes things, registers and
// buffers alike, and two that meet at one of which one writes stay in their order;
// a clock goes on by one, and in each cycle all instructions are looked at; heights
// are asked for again and again until none grows.

// slowOps: those whose words are not there in the next cycle, by their names, signs
// and kinds.
var slowOps = map[string]int{
	"load": 8, "call": 6, "op / 1": 6, "op % 1": 6,
	"op != 2": 4, "op % 2": 4, "op & 2": 4, "op && 2": 4, "op * 2": 4, "op + 2": 4, "op - 2": 4, "op / 2": 4, "op < 2": 4, "op << 2": 4, "op <= 2": 4, "op == 2": 4, "op > 2": 4, "op >= 2": 4, "op >> 2": 4, "op ^ 2": 4, "op | 2": 4, "op || 2": 4,
}

func wantLatency(i impl.Instr) int {
	if !wantGoodInstr(i, 600) {
		return 0
	}
	name := ops[i.Op].name
	if name == "op" {
		name += " " + wantSigns[i.Word/4] + " " + strconv.Itoa(int(i.Word%4))
	}
	return max(slowOps[name], 1)
}

// turnsAway: whether one may not stand in a row, though it is as said.
func turnsAway(i impl.Instr) bool {
	return slices.Contains([]string{"jump", "zero", "barrier", "end"}, ops[i.Op].name)
}

func wantRow(l []impl.Instr) bool {
	wrong := func(i impl.Instr) bool { return !wantGoodInstr(i, 600) || turnsAway(i) }
	return len(l) >= 1 && len(l) <= 64 && !slices.ContainsFunc(l, wrong)
}

// dealings: the things that an instruction reads, and those that it writes. Buffers
// have numbers above those of all registers.
type dealings struct{ reads, writes []int }

func dealingsOf(i impl.Instr) dealings {
	d := dealings{reads: wantRead(i)}
	if writesD(i) {
		d.writes = append(d.writes, i.D)
	}
	buffer := 1000 + int(i.Word)
	switch ops[i.Op].name {
	case "load":
		d.reads = append(d.reads, buffer)
	case "store":
		d.writes = append(d.writes, buffer)
	}
	return d
}

func anyOf(things, others []int) bool {
	return slices.ContainsFunc(things, func(thing int) bool { return slices.Contains(others, thing) })
}

// worked: a row, and for each two how many cycles the later one waits at least; 0
// where it does not.
type worked struct {
	l         []impl.Instr
	latencies []int
	waits     [][]int // by the later one, then by the one ahead
}

func workedOf(l []impl.Instr) *worked {
	w := &worked{l: l}
	var all []dealings
	for j, i := range l {
		later := dealingsOf(i)
		w.latencies = append(w.latencies, wantLatency(i))
		w.waits = append(w.waits, make([]int, j))
		for k, ahead := range all {
			switch {
			case anyOf(later.reads, ahead.writes):
				w.waits[j][k] = w.latencies[k]
			case anyOf(later.writes, ahead.reads) || anyOf(later.writes, ahead.writes):
				w.waits[j][k] = 1
			}
		}
		all = append(all, later)
	}
	return w
}

func (w *worked) needs() [][]int {
	rows := make([][]int, len(w.l))
	for j, waits := range w.waits {
		for k, wait := range waits {
			if wait > 0 {
				rows[j] = append(rows[j], k)
			}
		}
	}
	return rows
}

// noneYet: the cycle of each issue, none of which there was.
func (w *worked) noneYet() []int { return slices.Repeat([]int{-1}, len(w.l)) }

// may: whether one can be issued at a cycle, by those that are issued.
func (w *worked) may(j, cycle int, issued []int) bool {
	for k, wait := range w.waits[j] {
		if wait > 0 && (issued[k] < 0 || cycle-issued[k] < wait) {
			return false
		}
	}
	return issued[j] < 0
}

func (w *worked) cycles() int {
	issued, next, end := w.noneYet(), 0, 0
	for clock := 0; next < len(w.l); clock++ {
		if w.may(next, clock, issued) {
			issued[next] = clock
			end = max(end, clock+w.latencies[next])
			next++
		}
	}
	return end
}

func (w *worked) heights() []int {
	heights := slices.Clone(w.latencies)
	for again := true; again; {
		again = false
		for j, waits := range w.waits {
			for k, wait := range waits {
				if wait > 0 && heights[k] < heights[j]+wait {
					heights[k], again = heights[j]+wait, true
				}
			}
		}
	}
	return heights
}

// greedy: the order by heights, however long it takes.
func (w *worked) greedy() []int {
	var order []int
	heights, issued := w.heights(), w.noneYet()
	for clock := 0; len(order) < len(w.l); clock++ {
		best := -1
		for j := range w.l {
			if w.may(j, clock, issued) && (best < 0 || heights[j] > heights[best]) {
				best = j
			}
		}
		if best >= 0 {
			issued[best] = clock
			order = append(order, best)
		}
	}
	return order
}

func (w *worked) order() []int {
	order := w.greedy()
	if w.isWorse(order) {
		return upTo(len(w.l))
	}
	return order
}

// isWorse: whether an order takes longer than the row's own.
func (w *worked) isWorse(order []int) bool {
	moved, _ := w.reordered(order)
	return workedOf(moved).cycles() > w.cycles()
}

// reordered: each two that change places must not wait for each other.
func (w *worked) reordered(order []int) ([]impl.Instr, bool) {
	if !slices.Equal(slices.Sorted(slices.Values(order)), upTo(len(w.l))) {
		return nil, false
	}
	var moved []impl.Instr
	for at, number := range order {
		for _, ahead := range order[:at] {
			if ahead > number && w.waits[ahead][number] > 0 {
				return nil, false
			}
		}
		moved = append(moved, w.l[number])
	}
	return moved, true
}

// wantStretches: blocks without what turns away, in pieces of 64.
func wantStretches(l []impl.Instr) [][]int {
	var stretches [][]int
	for _, block := range wantBlocks(l) {
		block = slices.DeleteFunc(block, func(at int) bool { return turnsAway(l[at]) })
		for piece := range slices.Chunk(block, 64) {
			stretches = append(stretches, []int{piece[0], piece[len(piece)-1]})
		}
	}
	return stretches
}

func wantScheduled(l []impl.Instr) []impl.Instr {
	out := slices.Clone(l)
	for _, s := range wantStretches(l) {
		w := workedOf(l[s[0] : s[1]+1])
		for at, number := range w.order() {
			out[s[0]+at] = w.l[number]
		}
	}
	return out
}
