package tests

import (
	"slices"

	"loop.example/g00053/impl"
)

// Passes another way: numbers are looked for among those that stay, what is
// reached and what is read is asked of all code again and again, blocks are lists
// of places, and what is known of a register is looked for upwards within them.

// pass: one of chapter 12, and the other way to it.
type pass struct {
	name string
	of   func([]impl.Instr) ([]impl.Instr, bool)
	want func([]impl.Instr) []impl.Instr
}

// passes: in the order in which Improve has them.
func passes() []pass {
	return []pass{
		{"FoldConsts", impl.FoldConsts, wantFoldedCode},
		{"FollowMoves", impl.FollowMoves, wantFollowed},
		{"ShortJumps", impl.ShortJumps, wantShort},
		{"DropUnreached", impl.DropUnreached, wantNoUnreached},
		{"DropUnread", impl.DropUnread, wantNoUnread},
	}
}

// allPasses: Improve among them.
func allPasses() []pass {
	return append(passes(), pass{"Improve", impl.Improve, wantImproved})
}

func writesD(i impl.Instr) bool { return slices.Contains(ops[i.Op].fields, "D") }

// wantWithout: code with some taken out.
func wantWithout(l []impl.Instr, gone func(at int) bool) []impl.Instr {
	var stay []int
	var left []impl.Instr
	for at, i := range l {
		if !gone(at) {
			stay = append(stay, at)
			left = append(left, i)
		}
	}
	if len(left) == 0 || !endsWell(left) {
		return slices.Clone(l)
	}
	for at, i := range left {
		for field, what := range ops[i.Op].holds {
			if what != "number" {
				continue
			}
			number := slices.IndexFunc(stay, func(was int) bool { return was >= fieldOf(i, field) })
			if number < 0 {
				number = len(stay) - 1
			}
			left[at] = withField(left[at], field, number)
		}
	}
	return left
}

// wantReached: from 0 on by all arrows, joins among them, until there is nothing
// new.
func wantReached(l []impl.Instr) []bool {
	reached := make([]bool, len(l))
	reached[0] = true
	arrows := arrowsOf(l)
	for at, i := range l {
		if i.Op != impl.IJump && i.Op != impl.IEnd {
			arrows = append(arrows, arrow{from: at, to: at + 1})
		}
	}
	for again := true; again; {
		again = false
		for _, a := range arrows {
			if reached[a.from] && !reached[a.to] {
				reached[a.to], again = true, true
			}
		}
	}
	return reached
}

func wantNoUnreached(l []impl.Instr) []impl.Instr {
	reached := wantReached(l)
	return wantWithout(l, func(at int) bool { return !reached[at] })
}

func wantNoUnread(l []impl.Instr) []impl.Instr {
	read := map[int]bool{}
	for _, i := range l {
		for _, reg := range wantRead(i) {
			read[reg] = true
		}
	}
	left := wantWithout(l, func(at int) bool {
		return writesD(l[at]) && !read[l[at].D] || l[at].Op == impl.IMove && l[at].D == l[at].A
	})
	if len(left) < len(l) {
		return wantNoUnread(left)
	}
	return left
}

// wantBegins: whether a place begins a block.
func wantBegins(l []impl.Instr, place int) bool {
	if place == 0 || slices.Contains([]string{"jump", "zero", "end", "barrier"}, ops[l[place-1].Op].name) {
		return true
	}
	return slices.ContainsFunc(arrowsOf(l), func(a arrow) bool { return a.to == place })
}

func wantBlocks(l []impl.Instr) [][]int {
	var blocks [][]int
	for place := range l {
		if wantBegins(l, place) {
			blocks = append(blocks, nil)
		}
		last := len(blocks) - 1
		blocks[last] = append(blocks[last], place)
	}
	return blocks
}

// writer: the last of some places at which a register is written, as what is
// written there already says; -1 where it is not.
func writer(l []impl.Instr, places []int, reg int) int {
	for _, at := range slices.Backward(places) {
		if writesD(l[at]) && l[at].D == reg {
			return at
		}
	}
	return -1
}

func wantFoldedCode(l []impl.Instr) []impl.Instr {
	out := slices.Clone(l)
	for _, block := range wantBlocks(l) {
		for n, at := range block {
			var words []uint32
			for _, reg := range wantRead(l[at]) {
				if by := writer(out, block[:n], reg); by >= 0 && out[by].Op == impl.IConst {
					words = append(words, out[by].Word)
				}
			}
			if len(words) == 0 || len(words) < len(wantRead(l[at])) {
				continue
			}
			switch ops[l[at].Op].name {
			case "move", "op", "call", "not", "neg":
				out[at] = impl.Instr{Op: impl.IConst, D: l[at].D, Word: (&stroll{}).made(nil, l[at], words)}
			case "zero":
				if words[0] == 0 {
					out[at] = impl.Instr{Op: impl.IJump, A: l[at].B}
				}
			}
		}
	}
	return out
}

func wantFollowed(l []impl.Instr) []impl.Instr {
	out := slices.Clone(l)
	for _, block := range wantBlocks(l) {
		for n, at := range block {
			for f, reg := range wantRead(l[at]) {
				by := writer(out, block[:n], reg)
				if by < 0 || out[by].Op != impl.IMove {
					continue
				}
				behind := block[slices.Index(block, by)+1 : n]
				if out[by].A != reg && writer(out, behind, out[by].A) < 0 {
					out[at] = withField(out[at], fieldNames[1+f], out[by].A)
				}
			}
		}
	}
	return out
}

// goesOn: a number that an instruction tells, again and again that of the jump
// which stands there.
func goesOn(l []impl.Instr, at int, field string) {
	for range len(l) {
		to := fieldOf(l[at], field)
		if l[to].Op != impl.IJump || to == at {
			return
		}
		l[at] = withField(l[at], field, l[to].A)
	}
}

func wantShort(l []impl.Instr) []impl.Instr {
	out := slices.Clone(l)
	for at, i := range out {
		switch ops[i.Op].name {
		case "jump":
			goesOn(out, at, "A")
		case "zero":
			goesOn(out, at, "B")
		}
	}
	for at := range slices.Backward(l) {
		if out[at].Op == impl.IJump && out[at].A == at+1 {
			out = wantWithout(out, func(other int) bool { return other == at })
		}
	}
	return out
}

// wantRounds: the code ahead of the first round, behind it, and so on up to one
// that changes nothing.
func wantRounds(l []impl.Instr, most int) [][]impl.Instr {
	rounds := [][]impl.Instr{l}
	for range most {
		for _, p := range passes() {
			l = p.want(l)
		}
		if slices.Equal(l, rounds[len(rounds)-1]) {
			break
		}
		rounds = append(rounds, l)
	}
	return rounds
}

func wantImproved(l []impl.Instr) []impl.Instr {
	rounds := wantRounds(l, 10)
	return rounds[len(rounds)-1]
}
