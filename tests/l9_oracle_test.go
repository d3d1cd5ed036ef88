package tests

import (
	"slices"
	"strconv"
	"strings"

	"loop.example/g00053/impl"
)

// What a kernel does, another way: each thread has a list of what it still has to
// do, names are known by the node that makes them visible, and all that happens
// is written down; buffers, steps, races and what a name was given are read off
// from that in the end.

// happening: one thing that a thread did.
type happening struct {
	what          byte // 's': a step, 'r': a word was read, 'w': one was written, 'g': a name was given a value
	tid, part     int
	buffer, place int
	name          string
	word          uint32
}

// play: a run, as far as it went.
type play struct {
	x      impl.Launch
	params []*seat
	makers map[*seat]*seat
	log    []happening
	steps  int
	now    map[[2]int]uint32 // the words that were written, by buffer and place
	code   int
}

// task: a statement that is to be begun, or a loop that is to go on.
type task struct {
	s         *seat
	goesOn    bool
	next, end int64
}

// player: a thread.
type player struct {
	*play
	group, local, part int
	todo               []task // the last one comes first
	names              map[*seat]uint32
}

func countParams(k *seat, kinds ...int) int {
	n := 0
	for _, kid := range k.beneath {
		if slices.Contains(kinds, kid.kind) {
			n++
		}
	}
	return n
}

func wantLaunch(l []impl.Node, x impl.Launch) bool {
	if len(wantTyped(l).Types) == 0 {
		return false
	}
	k := seatsOf(l)
	for _, buffer := range x.Buffers {
		if len(buffer) >= 65 {
			return false
		}
	}
	return slices.Contains([]int{1, 2, 3, 4}, x.Groups) && slices.Contains([]int{1, 2, 3, 4, 5, 6, 7, 8}, x.Size) &&
		countParams(k, impl.NWholeIn, impl.NFloatIn) == len(x.Words) && countParams(k, impl.NWholeBuf, impl.NFloatBuf) == len(x.Buffers)
}

// upTo: 0, 1, 2 and so on, so many.
func upTo(n int) []int {
	l := []int{}
	for len(l) < n {
		l = append(l, len(l))
	}
	return l
}

// wantPlayRising: with both orders rising.
func wantPlayRising(l []impl.Node, x impl.Launch) *play {
	if !wantLaunch(l, x) {
		return &play{code: impl.RunBad}
	}
	return wantPlay(l, x, upTo(x.Groups), upTo(x.Size))
}

func wantPlay(l []impl.Node, x impl.Launch, groups, threads []int) *play {
	if !wantLaunch(l, x) || !slices.Equal(slices.Sorted(slices.Values(groups)), upTo(x.Groups)) || !slices.Equal(slices.Sorted(slices.Values(threads)), upTo(x.Size)) {
		return &play{code: impl.RunBad}
	}
	k := seatsOf(l)
	p := &play{x: x, makers: map[*seat]*seat{}, now: map[[2]int]uint32{}}
	p.params = k.beneath[:len(k.beneath)-1]
	for _, group := range groups {
		players := map[int]*player{}
		for _, local := range threads {
			players[local] = p.newPlayer(group, local)
		}
		for part, statements := range partsOf(k.beneath[len(k.beneath)-1]) {
			for _, local := range threads {
				players[local].part = part
				players[local].plan(statements)
				for len(players[local].todo) > 0 {
					players[local].doNext()
					if p.steps > 4000 {
						return &play{code: impl.RunSteps}
					}
				}
			}
		}
	}
	return p
}

// partsOf: a block's statements between its barriers.
func partsOf(block *seat) [][]*seat {
	parts := [][]*seat{nil}
	for _, s := range block.beneath {
		if s.kind == impl.NBarrier {
			parts = append(parts, nil)
			continue
		}
		parts[len(parts)-1] = append(parts[len(parts)-1], s)
	}
	return parts
}

func (p *play) newPlayer(group, local int) *player {
	a := &player{play: p, group: group, local: local, names: map[*seat]uint32{}}
	words := p.x.Words
	for _, param := range p.params {
		if !param.isBuffer() {
			a.names[param], words = words[0], words[1:]
		}
	}
	return a
}

func (p *play) makerOf(s *seat) *seat {
	if p.makers[s] == nil {
		p.makers[s] = s.makerOf(s.text)
	}
	return p.makers[s]
}

// bufferOf: the number of the buffer of a load or a store.
func (p *play) bufferOf(s *seat) int {
	n := 0
	for _, param := range p.params {
		if param == p.makerOf(s) {
			return n
		}
		if param.isBuffer() {
			n++
		}
	}
	panic(s.text)
}

func (a *player) tid() int { return a.group*a.x.Size + a.local }

func (a *player) note(what byte, buffer, place int, name string, word uint32) {
	a.log = append(a.log, happening{what, a.tid(), a.part, buffer, place, name, word})
}

func (a *player) plan(statements []*seat) {
	for _, s := range slices.Backward(statements) {
		a.todo = append(a.todo, task{s: s})
	}
}

func (a *player) doNext() {
	t := a.todo[len(a.todo)-1]
	a.todo = a.todo[:len(a.todo)-1]
	if t.goesOn && t.next >= t.end {
		return
	}
	a.steps++
	a.note('s', 0, 0, "", 0)
	if !t.goesOn {
		a.begin(t.s)
		return
	}
	a.names[t.s] = uint32(t.next)
	a.note('g', 0, 0, t.s.text, uint32(t.next))
	a.todo = append(a.todo, task{t.s, true, t.next + 1, t.end})
	a.plan(t.s.beneath[2].beneath)
}

func (a *player) begin(s *seat) {
	kids := s.beneath
	switch s.kind {
	case impl.NLet:
		a.gives(s, s.text, a.worth(kids[0]))
	case impl.NSet:
		maker := a.makerOf(s)
		a.gives(maker, s.text, a.worthAs(maker.letter(), kids[0]))
	case impl.NStore:
		buffer := a.bufferOf(s)
		place, word := signed(a.worth(kids[0])), a.worthAs(a.makerOf(s).letter(), kids[1])
		if place >= 0 && place < int64(len(a.x.Buffers[buffer])) {
			a.now[[2]int{buffer, int(place)}] = word
			a.note('w', buffer, int(place), "", word)
		}
	case impl.NIf:
		blocks := append(slices.Clone(kids[1:]), &seat{})
		a.plan(blocks[1-a.worth(kids[0])].beneath)
	case impl.NFor:
		a.todo = append(a.todo, task{s, true, signed(a.worth(kids[0])), signed(a.worth(kids[1]))})
	}
}

func (a *player) gives(maker *seat, name string, word uint32) {
	a.names[maker] = word
	a.note('g', 0, 0, name, word)
}

// worthAs: the word of an expression where a letter is wanted.
func (a *player) worthAs(wanted byte, s *seat) uint32 {
	word := a.worth(s)
	if wanted == 'f' && s.letter() == 'i' {
		return wantToFloat(word)
	}
	return word
}

func (a *player) worth(s *seat) uint32 {
	switch {
	case s.kind == impl.NWhole:
		n, _ := strconv.Atoi(s.text)
		return uint32(n)
	case s.kind == impl.NFloat:
		return wantFloat(s.text)
	case s.kind == impl.NBool:
		return wordOf(s.text == "true")
	case s.kind == impl.NName:
		return a.names[a.makerOf(s)]
	case s.kind == impl.NLoad:
		return a.read(a.bufferOf(s), signed(a.worth(s.beneath[0])))
	case s.kind == impl.NCall && len(s.beneath) == 0:
		return uint32(map[string]int{"tid": a.tid(), "local": a.local, "group": a.group, "size": a.x.Size}[s.text])
	}
	var words []uint32
	for _, kid := range s.beneath {
		words = append(words, a.worth(kid))
	}
	_, word := worthOf(s.kind, s.text, s.operands(), words)
	return word
}

func (a *player) read(buffer int, place int64) uint32 {
	if place < 0 || place >= int64(len(a.x.Buffers[buffer])) {
		return 0
	}
	word, ok := a.now[[2]int{buffer, int(place)}]
	if !ok {
		word = a.x.Buffers[buffer][place]
	}
	a.note('r', buffer, int(place), "", word)
	return word
}

// ran: the buffers as what was written leaves them, and how many steps there
// were.
func (p *play) ran() impl.Ran {
	if p.code != 0 {
		return impl.Ran{Code: p.code}
	}
	r := impl.Ran{}
	for _, buffer := range p.x.Buffers {
		r.Buffers = append(r.Buffers, slices.Clone(buffer))
	}
	for _, h := range p.log {
		switch h.what {
		case 'w':
			r.Buffers[h.buffer][h.place] = h.word
		case 's':
			r.Steps++
		}
	}
	return r
}

// letters: by word and thread the letters of what happened, in each part and, as
// part -1, in all of them.
func (p *play) letters() map[[2]int]map[[2]int]string {
	l := map[[2]int]map[[2]int]string{}
	for _, h := range p.log {
		if h.what != 'r' && h.what != 'w' {
			continue
		}
		at := [2]int{h.buffer, h.place}
		if l[at] == nil {
			l[at] = map[[2]int]string{}
		}
		for _, part := range []int{h.part, -1} {
			if by := [2]int{h.tid, part}; !strings.Contains(l[at][by], string(h.what)) {
				l[at][by] += string(h.what)
			}
		}
	}
	return l
}

// races: whether two threads race at a word, by its letters.
func (p *play) races(of map[[2]int]string, a, b int) bool {
	meet := func(part int) bool {
		x, y := of[[2]int{a, part}], of[[2]int{b, part}]
		return x != "" && y != "" && strings.Contains(x+y, "w")
	}
	if a/p.x.Size != b/p.x.Size {
		return meet(-1)
	}
	for by := range of {
		if by[0] == a && by[1] >= 0 && meet(by[1]) {
			return true
		}
	}
	return false
}

func (p *play) wantRaces() ([]impl.Race, bool) {
	if p.code != 0 {
		return nil, false
	}
	var l []impl.Race
	letters := p.letters()
	for buffer := range 6 {
		for place := range 64 {
			if race, ok := p.firstPair(letters[[2]int{buffer, place}]); ok {
				l = append(l, impl.Race{Buffer: buffer, Place: place, A: race[0], B: race[1]})
			}
		}
	}
	return l, true
}

func (p *play) firstPair(of map[[2]int]string) ([2]int, bool) {
	for a := range p.x.Groups * p.x.Size {
		for b := a + 1; b < p.x.Groups*p.x.Size; b++ {
			if of[[2]int{a, -1}] != "" && of[[2]int{b, -1}] != "" && p.races(of, a, b) {
				return [2]int{a, b}, true
			}
		}
	}
	return [2]int{}, false
}

// wantWatched: of a kernel's play what a name was given in a thread.
func (p *play) wantWatched(l []impl.Node, tid int, name string) ([]uint32, bool) {
	if p.code != 0 || tid < 0 || tid >= p.x.Groups*p.x.Size || !slices.Contains(seatsOf(l).wantNames(), name) {
		return nil, false
	}
	var words []uint32
	for _, h := range p.log {
		if h.what == 'g' && h.tid == tid && h.name == name {
			words = append(words, h.word)
		}
	}
	return words, true
}

// smallWhole: a whole number by which loops end and places are met.
func (c chance) smallWhole() string {
	switch c.Intn(12) {
	case 0:
		return strconv.Itoa(c.Intn(70))
	case 1:
		return someWholes[c.Intn(len(someWholes))]
	}
	return strconv.Itoa(c.Intn(6))
}

// tame: a kernel with small whole numbers, and many a place that hangs on the
// thread.
func (c chance) tame(l []impl.Node) []impl.Node {
	var out []impl.Node
	for at := 0; at < len(l); at++ {
		node := l[at]
		if node.Kind == impl.NWhole {
			node.Text = c.smallWhole()
		}
		out = append(out, node)
		if (node.Kind == impl.NLoad || node.Kind == impl.NStore) && c.Intn(2) == 0 {
			out = append(out, c.somePlace()...)
			at = impl.NodeEnd(l, at+1) - 1
		}
	}
	return out
}

func (c chance) somePlace() []impl.Node {
	own := tree{kind: impl.NCall, text: [...]string{"tid", "tid", "local", "group"}[c.Intn(4)]}
	switch c.Intn(4) {
	case 0:
		return tree{kind: impl.NWhole, text: c.smallWhole()}.nodes()
	case 1:
		return tree{impl.NBinary, "+", []tree{own, {kind: impl.NWhole, text: strconv.Itoa(c.Intn(5))}}}.nodes()
	}
	return own.nodes()
}

// tameKernel: a kernel with types that mostly ends.
func (c chance) tameKernel(n int) []impl.Node {
	for {
		if l := c.tame(c.kernelWithTypes(n, 0).nodes()); wantGood(l) {
			return l
		}
	}
}

// wordFor: a word for a parameter, a small one most times where it is a whole
// number.
func (c chance) wordFor(kind int) uint32 {
	switch {
	case kind == impl.NFloatIn || kind == impl.NFloatBuf:
		if c.Intn(2) == 0 {
			return wantToFloat(uint32(c.Intn(20) - 10))
		}
		return c.word()
	case c.Intn(8) == 0:
		return c.Uint32()
	}
	return uint32(c.Intn(12) - 3)
}

// launchFor: a good launch for a kernel.
func (c chance) launchFor(l []impl.Node) impl.Launch {
	x := impl.Launch{Groups: 1 + c.Intn(4), Size: 1 + c.Intn(8)}
	for _, node := range l {
		switch node.Kind {
		case impl.NWholeIn, impl.NFloatIn:
			x.Words = append(x.Words, c.wordFor(node.Kind))
		case impl.NWholeBuf, impl.NFloatBuf:
			buffer := make([]uint32, [...]int{0, 1, 5, 8, 32, 40, 64, c.Intn(65)}[c.Intn(8)])
			for i := range buffer {
				buffer[i] = c.wordFor(node.Kind)
			}
			x.Buffers = append(x.Buffers, buffer)
		}
	}
	return x
}
