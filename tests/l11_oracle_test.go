package tests

import (
	"maps"
	"slices"

	"loop.example/g00053/impl"
)

// Warps another way: what lies on an entry is a call within the call for that
// entry, which has come back where the entry above is taken away; lanes walk one
// by one as the threads of chapter 10 do. Joins by all arrows of the code, and the
// numbers that lie between.

// march: a run by warps. Its steps are the work of lanes.
type march struct {
	*stroll
	issues  int
	deepest int
	taken   map[int]int
	split   map[int]int
}

func wantWarped(l []impl.Instr, x impl.Launch) impl.Warped {
	warped, _ := marched(l, x)
	return warped
}

// marched: what is told of a run, and of its branches.
func marched(l []impl.Instr, x impl.Launch) (impl.Warped, []impl.Branch) {
	if !wantCode(l) || !wantCodeLaunch(x) {
		return impl.Warped{Code: impl.RunBad}, nil
	}
	m := &march{
		stroll: &stroll{code: l, x: x, written: map[[2]int]uint32{}, did: map[int]int{}},
		taken:  map[int]int{}, split: map[int]int{},
	}
	for group := range x.Groups {
		var lanes []*walker
		for local := range x.Size {
			lanes = append(lanes, &walker{group: group, local: local, regs: map[int]uint32{}})
		}
		if code := m.together(lanes, 0, -1, 1); code != 0 {
			return impl.Warped{Code: code}, nil
		}
	}
	var branches []impl.Branch
	for _, at := range slices.Sorted(maps.Keys(m.taken)) {
		branches = append(branches, impl.Branch{At: at, Taken: m.taken[at], Split: m.split[at]})
	}
	return impl.Warped{Buffers: m.ran().Buffers, Issues: m.issues, Work: m.steps, Deepest: m.deepest}, branches
}

// together: lanes go on from a number up to a join, with so many entries in all;
// a code where there is one.
func (m *march) together(lanes []*walker, at, join, entries int) int {
	for {
		lanes = lanesOf(lanes, func(w *walker) bool { return !w.stops })
		if len(lanes) == 0 || at == join {
			return 0
		}
		if m.issues == 100000 {
			return impl.RunSteps
		}
		i := m.code[at]
		m.issues++
		m.deepest = max(m.deepest, entries)
		for _, w := range lanes {
			w.at = at
			m.walk(w)
		}
		next := at + 1
		switch ops[i.Op].name {
		case "jump":
			next = i.A
		case "barrier":
			if entries > 1 {
				return impl.RunStuck
			}
			for _, w := range lanes {
				w.stops = false
			}
		case "zero":
			with := lanesOf(lanes, func(w *walker) bool { return w.regs[i.A] == 0 })
			without := lanesOf(lanes, func(w *walker) bool { return w.regs[i.A] != 0 })
			m.taken[at]++
			switch {
			case len(without) == 0:
				next = i.B
			case len(with) > 0:
				m.split[at]++
				if entries+2 > 64 {
					return impl.RunStuck
				}
				if code := m.together(without, at+1, i.C, entries+2); code != 0 {
					return code
				}
				if code := m.together(with, i.B, i.C, entries+1); code != 0 {
					return code
				}
				next = i.C
			}
		}
		at = next
	}
}

func lanesOf(l []*walker, keep func(*walker) bool) []*walker {
	var kept []*walker
	for _, w := range l {
		if keep(w) {
			kept = append(kept, w)
		}
	}
	return kept
}

// arrow: that an instruction may lead to a number other than the one behind it;
// of the joins of an IZero, too.
type arrow struct {
	from, to int
	op       string
	join     bool
}

func arrowsOf(l []impl.Instr) []arrow {
	var arrows []arrow
	for from, i := range l {
		switch op := ops[i.Op].name; op {
		case "jump":
			arrows = append(arrows, arrow{from, i.A, op, false})
		case "zero":
			arrows = append(arrows, arrow{from, i.B, op, false}, arrow{from, i.C, op, true})
		}
	}
	return arrows
}

// wantJoins: the halves of the sentence one after the other, for each IZero.
func wantJoins(l []impl.Instr) bool {
	if !wantCode(l) {
		return false
	}
	for zero, i := range l {
		if i.Op != impl.IZero {
			continue
		}
		if !(i.B > zero && i.C > zero) || i.B > i.C {
			return false
		}
		between := upTo(len(l))[zero+1 : i.C]
		for _, a := range arrowsOf(l) {
			within, into := slices.Contains(between, a.from), slices.Contains(between, a.to)
			beyond := within && a.to > i.C
			back := within && a.op == "jump" && a.to <= zero && a.from+1 != i.C
			in := !within && a.from != zero && into && !a.join
			if beyond || back || in {
				return false
			}
		}
	}
	return true
}
