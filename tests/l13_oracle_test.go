package tests

import (
	"slices"

	"loop.example/g00053/impl"
)

// Registers another way: whether one lives is asked by a walk ahead for each
// instruction and each register, those that clash are pairs in a map, and places
// and slots are tried one by one.

// study: good code, and what is found out about its registers.
type study struct {
	l      []impl.Instr
	on     [][]int // the numbers that may come next
	reads  [][]int
	writes []int // -1 where an instruction writes none
	regs   int
	live   [][]int
	first  []int // those that live ahead of number 0
	clash  map[[2]int]bool
}

func studied(l []impl.Instr) *study {
	s := &study{l: l, regs: wantRegs(l), on: make([][]int, len(l)), clash: map[[2]int]bool{}}
	for _, a := range arrowsOf(l) {
		s.on[a.from] = append(s.on[a.from], a.to)
	}
	for at, i := range l {
		s.reads = append(s.reads, wantRead(i))
		s.writes = append(s.writes, -1)
		if writesD(i) {
			s.writes[at] = i.D
		}
		if i.Op != impl.IJump && i.Op != impl.IEnd {
			s.on[at] = append(s.on[at], at+1)
		}
	}
	for at := range l {
		s.live = append(s.live, s.livingFrom(s.on[at]))
	}
	s.first = s.livingFrom([]int{0})
	s.findClashes()
	return s
}

// livingFrom: the registers that are read from some numbers on.
func (s *study) livingFrom(numbers []int) []int {
	var regs []int
	read := slices.Concat(s.reads...)
	for reg := range s.regs {
		if slices.Contains(read, reg) && s.isReadFrom(numbers, reg) {
			regs = append(regs, reg)
		}
	}
	return regs
}

// isReadFrom: whether from some numbers on one that reads a register is met
// without one ahead of it that writes it.
func (s *study) isReadFrom(numbers []int, reg int) bool {
	seen := make([]bool, len(s.l))
	open := slices.Clone(numbers)
	for len(open) > 0 {
		at := open[len(open)-1]
		open = open[:len(open)-1]
		switch {
		case seen[at]:
		case slices.Contains(s.reads[at], reg):
			return true
		case s.writes[at] != reg:
			open = append(open, s.on[at]...)
		}
		seen[at] = true
	}
	return false
}

func (s *study) findClashes() {
	for at, i := range s.l {
		for _, reg := range s.live[at] {
			if s.writes[at] < 0 || i.Op == impl.IMove && i.A == reg {
				continue
			}
			s.clash[[2]int{i.D, reg}] = true
			s.clash[[2]int{reg, i.D}] = true
		}
	}
	for _, one := range s.first {
		for _, other := range s.first {
			s.clash[[2]int{one, other}] = true
		}
	}
}

func (s *study) clashes(one, other int) bool { return one != other && s.clash[[2]int{one, other}] }

func (s *study) allClashes() [][]int {
	rows := make([][]int, s.regs)
	for one := range s.regs {
		for other := range s.regs {
			if s.clashes(one, other) {
				rows[one] = append(rows[one], other)
			}
		}
	}
	return rows
}

func (s *study) pressure() int {
	most := 0
	for _, regs := range s.live {
		most = max(most, len(regs))
	}
	return most
}

// order: the registers as they get their places.
func (s *study) order() []int {
	var order []int
	for reg := range s.regs {
		if !slices.Contains(s.writes, reg) {
			order = append(order, reg)
		}
	}
	for _, reg := range s.writes {
		if reg >= 0 && !slices.Contains(order, reg) {
			order = append(order, reg)
		}
	}
	return order
}

func (s *study) alloc(places int) (impl.Alloc, bool) {
	if places < 1 || places > 64 {
		return impl.Alloc{}, false
	}
	a := impl.Alloc{Where: make([]int, s.regs)}
	order := s.order()
	for n, reg := range order {
		taken := func(where int) bool {
			return slices.ContainsFunc(order[:n], func(other int) bool { return a.Where[other] == where && s.clashes(reg, other) })
		}
		where := 0
		for where < places && taken(where) {
			where++
		}
		if where == places {
			where = -1
			for taken(where) {
				where--
			}
			a.Slots = max(a.Slots, -where)
			a.Kept--
		}
		a.Kept++
		a.Where[reg] = where
	}
	return a, true
}

func (s *study) holds(a impl.Alloc, places int) bool {
	if places < 1 || places > 64 || a.Slots < 0 || a.Slots > 400 || len(a.Where) != s.regs {
		return false
	}
	kept, slots := 0, 0
	for _, where := range a.Where {
		if where >= places || where < -a.Slots {
			return false
		}
		if where >= 0 {
			kept++
		} else {
			slots = max(slots, -where)
		}
	}
	for two := range s.clash {
		if two[0] != two[1] && a.Where[two[0]] == a.Where[two[1]] {
			return false
		}
	}
	return a.Kept == kept && a.Slots == slots
}

func (s *study) applied(a impl.Alloc) ([]impl.Instr, bool) {
	places := 1
	for places <= 64 && !s.holds(a, places) {
		places++
	}
	if places > 64 {
		return nil, false
	}
	behind := 0
	for _, where := range a.Where {
		behind = max(behind, where+1)
	}
	var numbers []int
	for _, where := range a.Where {
		if where < 0 {
			where = behind - 1 - where
		}
		if where > 399 {
			return nil, false
		}
		numbers = append(numbers, where)
	}
	out := slices.Clone(s.l)
	for at, i := range out {
		if s.writes[at] >= 0 {
			out[at] = withField(out[at], "D", numbers[i.D])
		}
		for n, reg := range s.reads[at] {
			out[at] = withField(out[at], fieldNames[1+n], numbers[reg])
		}
	}
	return out, true
}

// wantOccupancy: groups are taken out one by one until the others have what they
// need.
func wantOccupancy(places, slots, size int) int {
	if places < 0 || places > 64 || slots < 0 || slots > 400 || size < 1 || size > 8 {
		return 0
	}
	groups := 8
	for groups*places*size > 256 || groups*slots*size > 512 {
		groups--
	}
	return groups
}
