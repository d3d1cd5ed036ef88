package tests

import (
	"slices"
	"testing"

	"loop.example/g00053/impl"
)

// Schedules, held against the other way.

// heldReorder: a row by an order; whether it may be so.
func heldReorder(t *testing.T, w *worked, order []int) bool {
	t.Helper()
	want, good := w.reordered(order)
	moved, ok := impl.Reorder(w.l, order)
	if ok != good || !slices.Equal(moved, want) {
		t.Errorf("Reorder(%v, %v) = %v, %v, want %v, %v", w.l, order, moved, ok, want, good)
	}
	return ok
}

// heldRow: all that is told of a row; its order.
func heldRow(t *testing.T, l []impl.Instr) (*worked, []int) {
	t.Helper()
	w := workedOf(l)
	for at, i := range l {
		if got := impl.LatencyOf(i); got != w.latencies[at] {
			t.Errorf("LatencyOf(%v) = %d, want %d", i, got, w.latencies[at])
		}
	}
	if needs, ok := impl.NeedsOf(l); !ok || !sameRows(needs, w.needs()) {
		t.Errorf("NeedsOf(%v) = %v, %v, want %v", l, needs, ok, w.needs())
	}
	if cycles, ok := impl.CyclesOf(l); !ok || cycles != w.cycles() {
		t.Errorf("CyclesOf(%v) = %d, %v, want %d", l, cycles, ok, w.cycles())
	}
	order, ok := impl.OrderOf(l)
	if want := w.order(); !ok || !slices.Equal(order, want) {
		t.Errorf("OrderOf(%v) = %v, %v, want %v", l, order, ok, want)
	}
	if !heldReorder(t, w, order) || !heldReorder(t, w, upTo(len(l))) {
		t.Errorf("%v can't be by %v, or not as it is", l, order)
	}
	return w, order
}

// heldSchedule: the stretches of good code, and the code by their orders.
func heldSchedule(t *testing.T, l []impl.Instr) []impl.Instr {
	t.Helper()
	want := wantStretches(l)
	if got, ok := impl.BlocksOf(l); !ok || !sameRows(got, want) {
		t.Errorf("BlocksOf(%s) = %v, %v, want %v", toldCode(l), got, ok, want)
	}
	code, ok := impl.ScheduleCode(l)
	if want := wantScheduled(l); !ok || !slices.Equal(code, want) {
		t.Errorf("ScheduleCode(%s) = %s, %v, want %s", toldCode(l), toldCode(code), ok, toldCode(want))
	}
	return code
}

// mixedRow: instructions of many or few sorts. The fewer registers there are the
// more of them need others.
func (c chance) mixedRow(count int) []impl.Instr {
	regs := [...]int{2, 4, 8, 8, 20, 100, 400}[c.Intn(7)]
	buffers := 1 + c.Intn(4)
	sorts := [][]int{{1, 2, 3, 3, 4, 5, 6, 6, 7, 12, 13}, {3, 3, 3, 4, 6}, {1, 2, 5, 12, 13, 3}, {6, 7}, {6, 1, 2}}[c.Intn(5)]
	var l []impl.Instr
	for range count {
		i := c.instr(sorts[c.Intn(len(sorts))], 600, regs)
		switch i.Op {
		case impl.ILoad, impl.IStore:
			i.Word = [...]uint32{uint32(c.Intn(buffers)), uint32(c.Intn(buffers)), i.Word}[c.Intn(3)]
		case impl.IOp:
			i.Word = [...]uint32{33, 34, 49, 50, 9, i.Word}[c.Intn(6)]
		}
		l = append(l, i)
	}
	return l
}

// linkedRow: each register is written once, and mostly read soon.
func (c chance) linkedRow(count int) []impl.Instr {
	near := 1 + c.Intn(6)
	var l []impl.Instr
	for at := range count {
		i := c.instr([...]int{1, 2, 3, 3, 3, 4, 6, 6, 7, 12}[c.Intn(10)], 600, 1)
		if writesD(i) {
			i.D = at
		}
		for n := range wantRead(i) {
			i = withField(i, fieldNames[1+n], max(at-1-c.Intn(near), 0))
		}
		if i.Op == impl.ILoad || i.Op == impl.IStore {
			i.Word = uint32(c.Intn(3))
		}
		l = append(l, i)
	}
	return l
}

// slowRow: some that are slow, each of which one or many read; in an order that was
// made shorter by chance, so that the one by heights may be worse.
func (c chance) slowRow(count int) []impl.Instr {
	slow := instrs("load 0 399 0 | load 0 399 1 | call 0 399 0 0 1 | op 0 399 399 34 | op 0 399 399 49 | move 0 399")
	var l []impl.Instr
	for len(l) < count {
		root := slow[c.Intn(5)]
		root.D = len(l)
		l = append(l, root)
		for range c.Intn(6) {
			i := slow[[...]int{c.Intn(6), 5, 5, 5}[c.Intn(4)]]
			i.D = len(l)
			for n := range wantRead(i) {
				i = withField(i, fieldNames[1+n], root.D)
			}
			l = append(l, i)
		}
	}
	l = l[:count]
	for range 6 * count {
		l = c.noLonger(l)
	}
	return l
}

// noLonger: a row with one at another place, where it may be and takes no longer.
func (c chance) noLonger(l []impl.Instr) []impl.Instr {
	order := upTo(len(l))
	from := c.Intn(len(order))
	order = slices.Insert(slices.Delete(order, from, from+1), c.Intn(len(order)), from)
	moved, ok := impl.Reorder(l, order)
	was, _ := impl.CyclesOf(l)
	if is, _ := impl.CyclesOf(moved); ok && is <= was {
		return moved
	}
	return l
}

// someRow: of one of several sorts, of 1 to 64 instructions.
func (c chance) someRow(n int) []impl.Instr {
	switch n % 4 {
	case 0, 1:
		return c.mixedRow(1 + n/4%64)
	case 2:
		return c.linkedRow(1 + n/4%64)
	}
	return c.slowRow(1 + n/4%16)
}

func TestRowsByChance(t *testing.T) {
	t.Parallel()
	c := newChance(248)
	moved, shorter, worse, idle, done := 0, 0, 0, 0, [14]int{}
	for n := range 2560 {
		w, order := heldRow(t, c.someRow(n))
		by, _ := impl.Reorder(w.l, order)
		cycles, _ := impl.CyclesOf(by)
		if !slices.Equal(order, upTo(len(w.l))) {
			moved++
		}
		if cycles < w.cycles() {
			shorter++
		}
		if n%4 == 3 && w.isWorse(w.greedy()) {
			worse++
		}
		if cycles > len(w.l)+8 {
			idle++
		}
		for _, i := range w.l {
			done[i.Op]++
		}
	}
	if moved < 1600 || shorter < 1400 || worse < 12 || idle < 500 {
		t.Errorf("of 2560 rows %d are moved, %d are shorter then, of %d the order by heights is worse, in %d cycles pass", moved, shorter, worse, idle)
	}
	for op, n := range done[1:] {
		if row := !turnsAway(impl.Instr{Op: op + 1}); (n > 1000) != row {
			t.Errorf("%s stands %d times", ops[op+1].name, n)
		}
	}
}

// Rows of which the one by heights takes longer than the own one.
func TestRowsWhoseOwnOrderIsBetter(t *testing.T) {
	t.Parallel()
	c := newChance(249)
	better := 0
	for n := range 400 {
		w, order := heldRow(t, c.slowRow(8+n%6))
		if w.isWorse(w.greedy()) {
			better++
			if !slices.Equal(order, upTo(len(w.l))) {
				t.Errorf("%v is moved by %v", w.l, order)
			}
		}
	}
	if better < 20 {
		t.Errorf("of %d the own order is better", better)
	}
}

// All rows of three and of four instructions, of some of each sort.
func TestAllSmallRows(t *testing.T) {
	t.Parallel()
	forms := instrs("const 1 1 | move 1 0 | move 0 1 | load 1 0 0 | load 0 1 1 | store 0 1 0 | store 1 0 1 | op 2 0 1 34 | op 0 0 0 49 | op 1 2 0 33 | call 2 1 0 0 1 | call 0 1 2 2 10 | in 2 0 | not 0 2 | neg 2 2")
	for _, first := range forms {
		for _, second := range forms {
			for _, third := range forms {
				heldRow(t, []impl.Instr{first, second, third})
			}
		}
	}
	forms = instrs("const 1 1 | move 1 0 | load 2 1 0 | store 0 2 0 | op 0 2 2 34 | call 3 1 0 0 1")
	for _, first := range forms {
		for _, second := range forms {
			for _, third := range forms {
				for _, fourth := range forms {
					heldRow(t, []impl.Instr{first, second, third, fourth})
				}
			}
		}
	}
}

// allOrders: of so many numbers.
func allOrders(count int) [][]int {
	if count == 0 {
		return [][]int{nil}
	}
	var orders [][]int
	for _, order := range allOrders(count - 1) {
		for at := range count {
			orders = append(orders, slices.Insert(slices.Clone(order), at, count-1))
		}
	}
	return orders
}

// Every order of small rows. None that may be is shorter than the shortest.
func TestEveryOrderOfSmallRows(t *testing.T) {
	t.Parallel()
	c := newChance(250)
	taken, not, best, others := 0, 0, 0, 0
	for n := range 200 {
		l := [][]impl.Instr{c.mixedRow(1 + n%5), c.linkedRow(1 + n%5), c.slowRow(1 + n%5)}[n%3]
		w, order := heldRow(t, l)
		least := w.cycles()
		for _, order := range allOrders(len(l)) {
			if !heldReorder(t, w, order) {
				not++
				continue
			}
			taken++
			moved, _ := impl.Reorder(l, order)
			cycles, _ := impl.CyclesOf(moved)
			least = min(least, cycles)
		}
		moved, _ := impl.Reorder(l, order)
		switch cycles, _ := impl.CyclesOf(moved); {
		case cycles == least:
			best++
		case cycles > least:
			others++
		default:
			t.Errorf("%v takes %d cycles by %v, less than by all orders", l, cycles, order)
		}
	}
	if taken < 1500 || not < 1500 || best < 190 {
		t.Errorf("%d orders are taken, %d are not; %d rows are as short as can be, %d are not", taken, not, best, others)
	}
}

// freeOrder: one in which each stands behind all that it needs, otherwise any.
func (c chance) freeOrder(w *worked) []int {
	var order []int
	needs := w.needs()
	for len(order) < len(w.l) {
		j := c.Intn(len(w.l))
		lacks := func(k int) bool { return !slices.Contains(order, k) }
		if lacks(j) && !slices.ContainsFunc(needs[j], lacks) {
			order = append(order, j)
		}
	}
	return order
}

// changedOrder: with one thing of it changed.
func (c chance) changedOrder(order []int) []int {
	order = slices.Clone(order)
	at, other := c.Intn(len(order)), c.Intn(len(order))
	switch c.Intn(6) {
	case 0:
		order[at], order[other] = order[other], order[at]
	case 1:
		order[at] = order[other]
	case 2:
		order[at] = [...]int{wrongInts[c.Intn(len(wrongInts))], len(order), -1}[c.Intn(3)]
	case 3:
		order = slices.Delete(order, at, at+1)
	case 4:
		order = slices.Insert(order, at, [...]int{len(order), other}[c.Intn(2)])
	default:
		number := order[at]
		order = slices.Insert(slices.Delete(order, at, at+1), other, number)
	}
	return order
}

func TestOrdersByChance(t *testing.T) {
	t.Parallel()
	c := newChance(251)
	taken, not := 0, 0
	for n := range 1200 {
		w := workedOf(c.someRow(n))
		order := c.freeOrder(w)
		if !heldReorder(t, w, order) {
			t.Errorf("%v can't be by %v", w.l, order)
		}
		heldRow(t, heldMoved(t, w, order))
		for range 4 {
			if heldReorder(t, w, c.changedOrder(order)) {
				taken++
			} else {
				not++
			}
		}
	}
	if taken < 400 || not < 2000 {
		t.Errorf("%d changed orders are taken, %d are not", taken, not)
	}
}

// heldMoved: a row by an order that may be.
func heldMoved(t *testing.T, w *worked, order []int) []impl.Instr {
	t.Helper()
	moved, ok := impl.Reorder(w.l, order)
	if !ok {
		t.Fatalf("%v can't be by %v", w.l, order)
	}
	return moved
}

// longRows: good code of so many instructions with stretches of any length, that
// mostly ends.
func (c chance) longRows(count int) []impl.Instr {
	var l []impl.Instr
	for len(l) < count-1 {
		long := [...]int{1 + c.Intn(8), 1 + c.Intn(140), 63, 64, 65, 127, 128, 129}[c.Intn(8)]
		l = append(l, append(c.someRow(c.Intn(240)), c.mixedRow(long)...)[:long]...)
		turn := c.instr([...]int{impl.IJump, impl.IZero, impl.IBarrier, impl.IEnd}[c.Intn(4)], count, 400)
		for _, field := range ops[turn.Op].fields {
			if ops[turn.Op].holds[field] == "number" && c.Intn(12) > 0 {
				turn = withField(turn, field, min(len(l)+1+c.Intn(80), count-1))
			}
		}
		l = append(l, turn)
	}
	return append(l[:count-1], c.instr([...]int{impl.IEnd, impl.IEnd, impl.IEnd, impl.IJump}[c.Intn(4)], count, 400))
}

// codeForSchedules: good code of one of several sorts.
func (c chance) codeForSchedules(n int) []impl.Instr {
	switch n % 8 {
	case 0, 1:
		return c.longRows(1 + c.Intn(200))
	case 2:
		return c.crowded(1 + n%60)
	case 3:
		l, _ := impl.CompileKernel(c.someKernel(n / 8 % 40))
		return l
	}
	return c.someCode(n)
}

func TestSchedulesByChance(t *testing.T) {
	t.Parallel()
	c := newChance(252)
	changed, none, cut := 0, 0, 0
	for n := range 2400 {
		l := c.codeForSchedules(n)
		if !slices.Equal(heldSchedule(t, l), l) {
			changed++
		}
		stretches := wantStretches(l)
		if len(stretches) == 0 {
			none++
		}
		if slices.ContainsFunc(stretches, func(s []int) bool { return s[1]-s[0] == 63 }) {
			cut++
		}
	}
	if changed < 1200 || none < 20 || cut < 100 {
		t.Errorf("of 2400 %d are changed, %d have no stretch, %d one of 64", changed, none, cut)
	}
}

func TestSchedulesOfLongCode(t *testing.T) {
	t.Parallel()
	c := newChance(253)
	for range 3 {
		heldSchedule(t, c.longRows(600))
		heldSchedule(t, c.crowded(600))
		heldSchedule(t, c.copying(600))
		heldSchedule(t, append(slices.Concat(c.mixedRow(300), c.linkedRow(299)), impl.Instr{Op: impl.IEnd}))
	}
}

func TestSchedulesOfCompiledKernels(t *testing.T) {
	t.Parallel()
	c := newChance(254)
	changed := 0
	for n := range 300 {
		code, _ := impl.CompileKernel(c.someKernel(n))
		if !slices.Equal(heldSchedule(t, code), code) {
			changed++
		}
		improved, _ := impl.Improve(code)
		heldSchedule(t, improved)
	}
	if changed < 150 {
		t.Errorf("of 300 kernels' code %d are changed", changed)
	}
}

// All code of three instructions, of a few of each sort, ahead of an end or a jump.
func TestSchedulesOfAllSmallCode(t *testing.T) {
	t.Parallel()
	forms := instrs("const 1 0 | load 2 1 0 | move 1 2 | store 0 1 0 | call 3 0 0 0 1 | barrier | end | jump 0 | jump 1 | jump 2 | zero 1 2 3 | zero 0 1 0 | zero 2 0 2")
	for _, first := range forms {
		for _, second := range forms {
			for _, third := range forms {
				for _, last := range instrs("end | jump 1 | jump 2") {
					heldSchedule(t, []impl.Instr{first, second, third, last})
				}
			}
		}
	}
}
