package tests

import (
	"slices"
	"strings"

	"loop.example/g00053/impl"
)

// Types another way: what comes out of operands stands in a table of letters, a
// name is looked for from its node upwards, and every node's faults are listed
// ahead of any choice among them.

// typeLetters: a letter for each type, in their order.
const typeLetters = "-ifb"

// operandRules: by signs and calls what comes out of which operands.
const operandRules = `
-: i=i f=f
!: b=b
+ - * /: ii=i if=f fi=f ff=f
% & | ^ << >>: ii=i
&& ||: bb=b
== !=: ii=b if=b fi=b ff=b bb=b
< <= > >=: ii=b if=b fi=b ff=b
abs: i=i f=f
min max: ii=i if=f fi=f ff=f
fma: iii=f iif=f ifi=f iff=f fii=f fif=f ffi=f fff=f
sqrt float: i=f f=f
int: i=i f=i
tid local group size: =i
`

// outcome: what comes out of an operation.
type outcome struct {
	text, operands string
	letter         byte
}

var outcomes = func() []outcome {
	var l []outcome
	for _, line := range strings.Split(strings.TrimSpace(operandRules), "\n") {
		texts, what, _ := strings.Cut(line, ": ")
		for _, text := range strings.Fields(texts) {
			for _, pair := range strings.Fields(what) {
				operands, letter, _ := strings.Cut(pair, "=")
				l = append(l, outcome{text, operands, letter[0]})
			}
		}
	}
	return l
}()

// wantOutcome: `-` where operands may not be of these types.
func wantOutcome(text, operands string) byte {
	for _, o := range outcomes {
		if o.text == text && o.operands == operands {
			return o.letter
		}
	}
	return '-'
}

// wantTakes: what may be set where a letter is wanted.
func wantTakes(wanted, given byte) bool {
	return given != '-' && strings.Contains(map[byte]string{'i': "i", 'f': "if", 'b': "b"}[wanted], string(given))
}

// seat: a node of a kernel with the one above it.
type seat struct {
	kind    int
	text    string
	at      int
	above   *seat
	beneath []*seat
	worked  byte // its letter, once it was worked out
}

func seatOf(t tree, above *seat, at int) (*seat, int) {
	s := &seat{kind: t.kind, text: t.text, at: at, above: above}
	at++
	for _, kid := range t.kids {
		var next *seat
		next, at = seatOf(kid, s, at)
		s.beneath = append(s.beneath, next)
	}
	return s, at
}

// makerOf: the node that makes a name visible at a seat, nil where there is
// none.
func (s *seat) makerOf(name string) *seat {
	if s.above == nil {
		return nil
	}
	nth := slices.Index(s.above.beneath, s)
	for _, ahead := range s.above.beneath[:nth] {
		if makesIn(s.above.kind, ahead.kind) && ahead.text == name {
			return ahead
		}
	}
	if s.above.kind == impl.NFor && nth == 2 && s.above.text == name {
		return s.above
	}
	return s.above.makerOf(name)
}

// makesIn: whether a node beneath another one makes a name there for those
// behind it.
func makesIn(above, kind int) bool {
	switch above {
	case impl.NKernel:
		return kind >= impl.NWholeIn && kind <= impl.NFloatBuf
	case impl.NBlock:
		return kind == impl.NLet
	}
	return false
}

func (s *seat) isBuffer() bool {
	return s != nil && (s.kind == impl.NWholeBuf || s.kind == impl.NFloatBuf)
}

func (s *seat) operands() string {
	l := ""
	for _, kid := range s.beneath {
		l += string(kid.letter())
	}
	return l
}

// letter: the type of a node without a fault in it.
func (s *seat) letter() byte {
	if s.worked == 0 {
		s.worked = s.workedOut()
	}
	return s.worked
}

func (s *seat) workedOut() byte {
	switch s.kind {
	case impl.NWhole, impl.NFor, impl.NWholeIn, impl.NWholeBuf:
		return 'i'
	case impl.NFloat, impl.NFloatIn, impl.NFloatBuf:
		return 'f'
	case impl.NBool:
		return 'b'
	case impl.NLet:
		return s.beneath[0].letter()
	case impl.NName, impl.NSet, impl.NLoad:
		if maker := s.makerOf(s.text); maker != nil {
			return maker.letter()
		}
	case impl.NUnary, impl.NBinary, impl.NCall:
		return wantOutcome(s.text, s.operands())
	}
	return '-'
}

// faults: all codes at a node but a loop's TypTwice.
func (s *seat) faults() []int {
	var codes []int
	wrong := func(code int, is bool) {
		if is {
			codes = append(codes, code)
		}
	}
	maker := s.makerOf(s.text)
	switch s.kind {
	case impl.NName:
		wrong(impl.TypName, maker == nil || maker.isBuffer())
	case impl.NLoad:
		wrong(impl.TypName, !maker.isBuffer())
		wrong(impl.TypKind, s.operands() != "i")
	case impl.NUnary, impl.NBinary, impl.NCall:
		wrong(impl.TypKind, wantOutcome(s.text, s.operands()) == '-')
	case impl.NLet, impl.NWholeIn, impl.NFloatIn, impl.NWholeBuf, impl.NFloatBuf:
		wrong(impl.TypTwice, maker != nil)
	case impl.NSet:
		wrong(impl.TypName, maker == nil || maker.isBuffer())
		wrong(impl.TypKind, maker != nil && !wantTakes(maker.letter(), s.beneath[0].letter()))
		wrong(impl.TypSet, maker != nil && maker.kind != impl.NLet)
	case impl.NStore:
		wrong(impl.TypName, !maker.isBuffer())
		wrong(impl.TypKind, s.beneath[0].letter() != 'i')
		wrong(impl.TypKind, maker != nil && !wantTakes(maker.letter(), s.beneath[1].letter()))
	case impl.NIf:
		wrong(impl.TypKind, s.beneath[0].letter() != 'b')
	case impl.NFor:
		wrong(impl.TypKind, s.operands()[:2] != "ii")
	case impl.NBarrier:
		wrong(impl.TypBarrier, s.above.above.kind != impl.NKernel)
	}
	return codes
}

// told5: a code and the node at which it is.
type told5 struct{ code, at int }

// allFaults: every fault of a kernel in the order in which they are looked for.
func (s *seat) allFaults() []told5 {
	var l []told5
	for nth, kid := range s.beneath {
		if s.kind == impl.NFor && nth == 2 && s.makerOf(s.text) != nil {
			l = append(l, told5{impl.TypTwice, s.at})
		}
		l = append(l, kid.allFaults()...)
	}
	for _, code := range slices.Sorted(slices.Values(s.faults())) {
		l = append(l, told5{code, s.at})
	}
	return l
}

// allTypes: the types of nodes in the order of their numbers.
func (s *seat) allTypes() []int {
	l := []int{strings.IndexByte(typeLetters, s.letter())}
	for _, kid := range s.beneath {
		l = append(l, kid.allTypes()...)
	}
	return l
}

// seatsOf: the first seat of a good kernel, nil of others.
func seatsOf(l []impl.Node) *seat {
	if !wantGood(l) {
		return nil
	}
	t, _, _ := treeAt(l, 0)
	s, _ := seatOf(t, nil, 0)
	return s
}

func wantTyped(l []impl.Node) impl.Typed {
	s := seatsOf(l)
	if s == nil {
		return impl.Typed{}
	}
	if faults := s.allFaults(); len(faults) > 0 {
		return impl.Typed{Code: faults[0].code, At: faults[0].at}
	}
	return impl.Typed{Types: s.allTypes()}
}

// wantNames: of a kernel without a fault.
func (s *seat) wantNames() []string {
	var l []string
	if s.kind == impl.NLet || s.kind == impl.NFor {
		l = append(l, s.text)
	}
	for _, kid := range s.beneath {
		l = append(l, kid.wantNames()...)
	}
	return l
}

// wantLoops: of a kernel without a fault.
func (s *seat) wantLoops() int {
	most := 0
	for _, kid := range s.beneath {
		most = max(most, kid.wantLoops())
	}
	if s.kind == impl.NFor {
		most++
	}
	return most
}

// known: a name that is visible while a kernel is made by chance.
type known struct {
	name   string
	letter byte
	maker  int
}

// scene makes kernels with types by chance; one thing in so many is not as it
// should be, none at 0.
type scene struct {
	chance
	seen  []known
	wrong int
	deep  int
}

func (s *scene) errs() bool { return s.wrong > 0 && s.Intn(s.wrong) == 0 }

// named: a visible name that fits, if there is one.
func (s *scene) named(fits func(known) bool) (string, bool) {
	if s.errs() {
		return s.anyName(), true
	}
	var l []string
	for _, k := range s.seen {
		if fits(k) {
			l = append(l, k.name)
		}
	}
	if len(l) == 0 {
		return "", false
	}
	return l[s.Intn(len(l))], true
}

func (s *scene) anyName() string {
	return [...]string{"a", "b", "c", "d", "e", "f", "g", "h", "größe", "k", "aa", "x_1"}[s.Intn(12)]
}

// newName: one that is not visible.
func (s *scene) newName() string {
	for range 20 {
		name := s.anyName()
		if s.errs() || !slices.ContainsFunc(s.seen, func(k known) bool { return k.name == name }) {
			return name
		}
	}
	return "q" + s.plain(6)
}

// outcomeOf: an operation of a letter with at least so many operands.
func (c chance) outcomeOf(letter byte, least int) outcome {
	var l []outcome
	for _, o := range outcomes {
		if o.letter == letter && len(o.operands) >= least {
			l = append(l, o)
		}
	}
	return l[c.Intn(len(l))]
}

// applied: an operation with an operand for each of its letters.
func (o outcome) applied(operand func(letter byte) tree) tree {
	t := tree{kind: impl.NBinary, text: o.text}
	switch {
	case isCall(o.text):
		t.kind = impl.NCall
	case len(o.operands) == 1:
		t.kind = impl.NUnary
	}
	for i := range len(o.operands) {
		t.kids = append(t.kids, operand(o.operands[i]))
	}
	return t
}

// leafOf: an expression of a letter without operands.
func (s *scene) leafOf(letter byte) tree {
	name, ok := s.named(func(k known) bool { return k.letter == letter && k.maker <= impl.NFloatIn })
	if ok && s.Intn(3) > 0 {
		return tree{kind: impl.NName, text: name}
	}
	switch {
	case letter == 'f':
		return tree{kind: impl.NFloat, text: s.floatText()}
	case letter == 'b':
		return tree{kind: impl.NBool, text: [...]string{"true", "false"}[s.Intn(2)]}
	case s.Intn(2) == 0:
		return tree{kind: impl.NCall, text: [...]string{"group", "local", "size", "tid"}[s.Intn(4)]}
	}
	return tree{kind: impl.NWhole, text: s.plain(1 + s.Intn(9))}
}

// of: an expression of a letter and about n nodes.
func (s *scene) of(letter byte, n int) tree {
	if s.errs() {
		letter = typeLetters[1+s.Intn(3)]
	}
	if n <= 1 {
		return s.leafOf(letter)
	}
	if s.Intn(6) == 0 {
		if name, ok := s.named(func(k known) bool { return k.letter == letter && k.maker >= impl.NWholeBuf }); ok {
			return tree{impl.NLoad, name, []tree{s.of('i', n-1)}}
		}
	}
	o := s.outcomeOf(letter, 0)
	return o.applied(func(letter byte) tree { return s.of(letter, (n-1)/len(o.operands)) })
}

func (s *scene) anyLetter() byte { return typeLetters[1+s.Intn(3)] }

// givenTo: an expression that something of a letter may be set to.
func (s *scene) givenTo(letter byte, n int) tree {
	if letter == 'f' && s.Intn(3) == 0 {
		letter = 'i'
	}
	return s.of(letter, n)
}

// letterOf: the letter of a name that is visible, any letter of one that is
// not.
func (s *scene) letterOf(name string) byte {
	for _, k := range s.seen {
		if k.name == name {
			return k.letter
		}
	}
	return s.anyLetter()
}

// statementFor: a statement of about n nodes.
func (s *scene) statementFor(n int) tree {
	switch s.Intn(7) {
	case 0:
		if name, ok := s.named(func(k known) bool { return k.maker == impl.NLet }); ok {
			return tree{impl.NSet, name, []tree{s.givenTo(s.letterOf(name), n-1)}}
		}
	case 1:
		if name, ok := s.named(func(k known) bool { return k.maker >= impl.NWholeBuf }); ok {
			return tree{impl.NStore, name, []tree{s.of('i', n/2), s.givenTo(s.letterOf(name), n/2)}}
		}
	case 2:
		return tree{impl.NIf, "", []tree{s.of('b', n/3), s.blockFor(n/2, known{})}}
	case 3:
		return tree{impl.NIf, "", []tree{s.of('b', n/4), s.blockFor(n/3, known{}), s.blockFor(n/3, known{})}}
	case 4:
		name := s.newName()
		return tree{impl.NFor, name, []tree{s.of('i', n/6), s.of('i', n/6), s.blockFor(n/2, known{name, 'i', impl.NFor})}}
	case 5:
		if s.deep == 1 || s.errs() {
			return tree{kind: impl.NBarrier}
		}
	}
	letter := s.anyLetter()
	t := tree{impl.NLet, s.newName(), []tree{s.of(letter, n-1)}}
	s.seen = append(s.seen, known{t.text, letter, impl.NLet})
	return t
}

// blockFor: a block in which a loop's name may be visible.
func (s *scene) blockFor(n int, loop known) tree {
	outside := s.seen
	s.seen = slices.Clone(s.seen)
	if loop.name != "" {
		s.seen = append(s.seen, loop)
	}
	s.deep++
	t := tree{kind: impl.NBlock}
	for n > 0 {
		size := 1 + s.Intn(n)
		t.kids = append(t.kids, s.statementFor(size))
		n -= size
	}
	s.deep--
	s.seen = outside
	return t
}

// kernelWithTypes: a good kernel of about n nodes; without a fault where wrong
// is 0.
func (c chance) kernelWithTypes(n, wrong int) tree {
	for {
		s := &scene{chance: c, wrong: wrong}
		t := tree{kind: impl.NKernel, text: s.anyName()}
		for range s.Intn(7) {
			p := tree{kind: impl.NWholeIn + s.Intn(4), text: s.newName()}
			t.kids = append(t.kids, p)
			s.seen = append(s.seen, known{p.text, "ifif"[p.kind-impl.NWholeIn], p.kind})
		}
		t.kids = append(t.kids, s.blockFor(n, known{}))
		if wantGood(t.nodes()) {
			return t
		}
	}
}
