package tests

import (
	"bytes"
	"encoding/binary"
	"regexp"
	"slices"
	"strconv"
	"strings"

	"loop.example/g00053/impl"
)

// Code another way: what each op names stands in a table of words; texts and
// bytes are taken apart by their form; kernels become lines with marks and with
// values that have no number yet, and both are numbered in the end; threads are
// asked one by one who may go on, and what they write is laid aside.

// opRules: the ops in their order, and what each of their fields holds.
const opRules = `
const D=register Word=constant
move D=register A=register
op D=register A=register B=register Word=sign
call D=register A=register B=register C=register Word=call
in D=register Word=given
load D=register A=register Word=given
store A=register B=register Word=given
jump A=number
zero A=register B=number C=number
barrier
end
not D=register A=register
neg D=register A=register
`

var fieldNames = strings.Fields("D A B C Word")

// opRule: the fields that an op names, and what each holds.
type opRule struct {
	name   string
	fields []string
	holds  map[string]string
}

var ops = func() []opRule {
	l := []opRule{{}}
	for _, line := range strings.Split(strings.TrimSpace(opRules), "\n") {
		words := strings.Fields(line)
		rule := opRule{name: words[0], holds: map[string]string{}}
		for _, word := range words[1:] {
			field, what, _ := strings.Cut(word, "=")
			rule.fields = append(rule.fields, field)
			rule.holds[field] = what
		}
		l = append(l, rule)
	}
	return l
}()

func isOp(op int) bool { return op >= 1 && op <= 13 }

func opNamed(name string) int {
	return slices.IndexFunc(ops, func(r opRule) bool { return name != "" && r.name == name })
}

func fieldOf(i impl.Instr, field string) int {
	return map[string]int{"D": i.D, "A": i.A, "B": i.B, "C": i.C, "Word": int(i.Word)}[field]
}

func withField(i impl.Instr, field string, value int) impl.Instr {
	switch field {
	case "D":
		i.D = value
	case "A":
		i.A = value
	case "B":
		i.B = value
	case "C":
		i.C = value
	case "Word":
		i.Word = uint32(value)
	}
	return i
}

// mayHold: whether a value is one of what a field holds, in code of so many.
func mayHold(what string, value, count int) bool {
	switch what {
	case "register":
		return value >= 0 && value <= 399
	case "number":
		return value >= 0 && value < count
	case "constant":
		return true
	case "sign":
		return value/4 < len(wantSigns) && slices.Contains(betweenSigns, wantSigns[value/4]) && value%4 > 0
	case "call":
		return value/4 < len(wantCalls) && wantArity[wantCalls[value/4]] > 0 && (value%4 == 1 || value%4 == 2)
	case "given":
		return value <= 999
	}
	return value == 0
}

func wantGoodInstr(i impl.Instr, count int) bool {
	if !isOp(i.Op) {
		return false
	}
	for _, field := range fieldNames {
		if !mayHold(ops[i.Op].holds[field], fieldOf(i, field), count) {
			return false
		}
	}
	return i.Op != impl.ICall || slices.Max(append(callRegs(i)[callArity(i):], 0)) == 0
}

// callRegs and callArity: of an ICall.
func callRegs(i impl.Instr) []int  { return []int{i.A, i.B, i.C} }
func callArity(i impl.Instr) int   { return wantArity[wantCalls[i.Word/4]] }
func lastOp(l []impl.Instr) string { return ops[l[len(l)-1].Op].name }
func endsWell(l []impl.Instr) bool { return slices.Contains([]string{"end", "jump"}, lastOp(l)) }
func notMany(l []impl.Instr) bool  { return len(l) >= 1 && len(l) <= 600 }
func allGood(l []impl.Instr) bool  { return !slices.ContainsFunc(l, badAmong(len(l))) }
func wantCode(l []impl.Instr) bool { return notMany(l) && allGood(l) && endsWell(l) }
func badAmong(count int) func(impl.Instr) bool {
	return func(i impl.Instr) bool { return !wantGoodInstr(i, count) }
}

// wantRead: the registers that an instruction as said reads, in the order of its
// fields.
func wantRead(i impl.Instr) []int {
	var regs []int
	for _, field := range []string{"A", "B", "C"} {
		if ops[i.Op].holds[field] == "register" {
			regs = append(regs, fieldOf(i, field))
		}
	}
	if i.Op == impl.ICall {
		regs = regs[:callArity(i)]
	}
	return regs
}

func wantReads(i impl.Instr) []int {
	if !wantGoodInstr(i, 600) {
		return nil
	}
	set := map[int]bool{}
	for _, reg := range wantRead(i) {
		set[reg] = true
	}
	var regs []int
	for reg := range 400 {
		if set[reg] {
			regs = append(regs, reg)
		}
	}
	return regs
}

func wantRegs(l []impl.Instr) int {
	if !wantCode(l) {
		return 0
	}
	most := -1
	for _, i := range l {
		for field, what := range ops[i.Op].holds {
			if what == "register" {
				most = max(most, fieldOf(i, field))
			}
		}
	}
	return most + 1
}

func wantCodeText(l []impl.Instr) (string, bool) {
	if !wantCode(l) {
		return "", false
	}
	text := ""
	for _, i := range l {
		words := []string{ops[i.Op].name}
		for _, field := range ops[i.Op].fields {
			words = append(words, strconv.Itoa(fieldOf(i, field)))
		}
		text += strings.Join(words, " ") + "\n"
	}
	return text, true
}

var codeLine = regexp.MustCompile(`^[a-z]+( (0|[1-9][0-9]{0,9}))*$`)

func wantReadCode(text string) ([]impl.Instr, bool) {
	var l []impl.Instr
	lines := strings.Split(text, "\n")
	if lines[len(lines)-1] != "" {
		return nil, false
	}
	for _, line := range lines[:len(lines)-1] {
		words := strings.Split(line, " ")
		op := opNamed(words[0])
		if !codeLine.MatchString(line) || op < 1 || len(words)-1 != len(ops[op].fields) {
			return nil, false
		}
		i := impl.Instr{Op: op}
		for n, field := range ops[op].fields {
			value, err := strconv.ParseUint(words[n+1], 10, 32)
			if err != nil {
				return nil, false
			}
			i = withField(i, field, int(value))
		}
		l = append(l, i)
	}
	if !wantCode(l) {
		return nil, false
	}
	return l, true
}

// wantCrc: each byte times as many factors as bytes stand behind it, from the
// last one on.
func wantCrc(data []byte) uint16 {
	sum, factor := uint64(0), uint64(1)
	for _, b := range slices.Backward(data) {
		sum += uint64(b) * factor
		factor = factor * 31 % 65521
	}
	return uint16(sum % 65521)
}

// withCrc: bytes, and what is told of them behind them.
func withCrc(data []byte) []byte {
	return binary.LittleEndian.AppendUint16(slices.Clone(data), wantCrc(data))
}

func wantEncoded(l []impl.Instr) ([]byte, bool) {
	if !wantCode(l) {
		return nil, false
	}
	return withCrc(bytesOfCode(l)), true
}

// bytesOfCode: those ahead of the Crc, of any code whose values are not too
// wide.
func bytesOfCode(l []impl.Instr) []byte {
	data := binary.LittleEndian.AppendUint16([]byte{75, 79, 68, 49}, uint16(len(l)))
	for _, i := range l {
		data = append(data, byte(i.Op))
		for _, field := range ops[i.Op].fields {
			if field == "Word" {
				data = binary.LittleEndian.AppendUint32(data, i.Word)
			} else {
				data = binary.LittleEndian.AppendUint16(data, uint16(fieldOf(i, field)))
			}
		}
	}
	return data
}

func wantDecoded(data []byte) ([]impl.Instr, bool) {
	if len(data) < 8 || !bytes.HasPrefix(data, []byte("KOD1")) || !bytes.Equal(data, withCrc(data[:len(data)-2])) {
		return nil, false
	}
	var l []impl.Instr
	rest := data[6 : len(data)-2]
	for len(rest) > 0 {
		op := int(rest[0])
		if !isOp(op) || len(rest) < opLength(op) {
			return nil, false
		}
		i := impl.Instr{Op: op}
		for n, field := range ops[op].fields {
			value := int(binary.LittleEndian.Uint16(rest[1+2*n:]))
			if field == "Word" {
				value = int(binary.LittleEndian.Uint32(rest[1+2*n:]))
			}
			i = withField(i, field, value)
		}
		l = append(l, i)
		rest = rest[opLength(op):]
	}
	if len(l) != int(binary.LittleEndian.Uint16(data[4:])) || !wantCode(l) {
		return nil, false
	}
	return l, true
}

// opLength: how many bytes an instruction has.
func opLength(op int) int {
	n := 1 + 2*len(ops[op].fields)
	if slices.Contains(ops[op].fields, "Word") {
		n += 2
	}
	return n
}

// line: an instruction whose registers and numbers are still names; or a mark,
// for the line behind it.
type line struct {
	mark string
	op   string
	is   map[string]string // by field the name of a register or a mark
	word uint32
}

// paper: the lines of a kernel.
type paper []line

func (p *paper) mark(name string) { *p = append(*p, line{mark: name}) }

// put: fields and their names, one behind the other; the word in the end.
func (p *paper) put(op string, word uint32, fields ...string) {
	l := line{op: op, is: map[string]string{}, word: word}
	for i := 0; i < len(fields); i += 2 {
		l.is[fields[i]] = fields[i+1]
	}
	*p = append(*p, l)
}

func (p *paper) sign(to, text string, kind int, a, b string) {
	p.put("op", uint32(slices.Index(wantSigns, text)*4+kind), "D", to, "A", a, "B", b)
}

// own: the name of something of a seat.
func (s *seat) own(what string) string { return what + " of " + strconv.Itoa(s.at) }

// nameOf: the register of a name that is visible at a seat.
func (s *seat) nameOf(name string) string { return s.makerOf(name).own("name") }

// bufferNumber: that of a load or a store.
func (s *seat) bufferNumber() uint32 {
	maker := s.makerOf(s.text)
	n := uint32(0)
	for _, param := range maker.above.beneath {
		if param == maker {
			return n
		}
		if param.isBuffer() {
			n++
		}
	}
	panic(s.text)
}

// floated: the register of a seat's value as a letter wants it.
func (s *seat) floated(p *paper, wanted byte) string {
	if wanted != 'f' || s.letter() != 'i' {
		return s.result()
	}
	p.put("call", uint32(slices.Index(wantCalls, "float")*4+1), "D", s.own("float"), "A", s.result())
	return s.own("float")
}

// result: the register of an expression's value.
func (s *seat) result() string {
	if s.kind == impl.NName {
		return s.nameOf(s.text)
	}
	return s.own("value")
}

// operandLetter: what the operands of a sign or a call are then.
func (s *seat) operandLetter() byte {
	switch letters := s.operands(); {
	case strings.Contains(letters, "f") || s.text == "fma" || s.text == "sqrt":
		return 'f'
	case strings.Contains(letters, "b"):
		return 'b'
	}
	return 'i'
}

func (s *seat) writeExpr(p *paper) {
	v := s.own("value")
	if s.kind == impl.NUnary && s.letter() == 'i' {
		p.put("const", 0, "D", s.own("nought"))
	}
	for _, kid := range s.beneath {
		kid.writeExpr(p)
	}
	switch {
	case s.kind == impl.NWhole:
		n, _ := strconv.ParseUint(s.text, 10, 32)
		p.put("const", uint32(n), "D", v)
	case s.kind == impl.NFloat:
		p.put("const", wantFloat(s.text), "D", v)
	case s.kind == impl.NBool:
		p.put("const", wordOf(s.text == "true"), "D", v)
	case s.kind == impl.NLoad:
		p.put("load", s.bufferNumber(), "D", v, "A", s.beneath[0].result())
	case s.kind == impl.NUnary && s.letter() == 'i':
		p.sign(v, "-", 1, s.own("nought"), s.beneath[0].result())
	case s.kind == impl.NUnary:
		p.put(map[byte]string{'f': "neg", 'b': "not"}[s.letter()], 0, "D", v, "A", s.beneath[0].result())
	case s.kind == impl.NCall && len(s.beneath) == 0:
		p.put("in", map[string]uint32{"local": 1, "group": 2, "size": 3}[s.text], "D", v)
	case s.kind == impl.NBinary || s.kind == impl.NCall:
		s.writeOperation(p)
	}
}

func (s *seat) writeOperation(p *paper) {
	wanted := s.operandLetter()
	kind := uint32(strings.IndexByte(typeLetters, wanted))
	fields := []string{"D", s.own("value")}
	for i, kid := range s.beneath {
		fields = append(fields, "ABC"[i:i+1], kid.floated(p, wanted))
	}
	if s.kind == impl.NBinary {
		p.put("op", uint32(slices.Index(wantSigns, s.text)*4)+kind, fields...)
	} else {
		p.put("call", uint32(slices.Index(wantCalls, s.text)*4)+kind, fields...)
	}
}

func (s *seat) writeStatement(p *paper) {
	kids := s.beneath
	for _, kid := range kids {
		if kid.kind <= impl.NCall && s.kind != impl.NFor {
			kid.writeExpr(p)
		}
	}
	switch s.kind {
	case impl.NLet:
		p.put("move", 0, "D", s.own("name"), "A", kids[0].result())
	case impl.NSet:
		p.put("move", 0, "A", kids[0].floated(p, s.letter()), "D", s.nameOf(s.text))
	case impl.NStore:
		p.put("store", s.bufferNumber(), "A", kids[0].result(), "B", kids[1].floated(p, s.makerOf(s.text).letter()))
	case impl.NBarrier:
		p.put("barrier", 0)
	case impl.NIf:
		s.writeIf(p)
	case impl.NFor:
		s.writeFor(p)
	}
}

func (s *seat) writeIf(p *paper) {
	p.put("zero", 0, "A", s.beneath[0].result(), "B", s.own("other"), "C", s.own("end"))
	s.beneath[1].writeBlock(p)
	if len(s.beneath) == 3 {
		p.put("jump", 0, "A", s.own("end"))
		p.mark(s.own("other"))
		s.beneath[2].writeBlock(p)
	} else {
		p.mark(s.own("other"))
	}
	p.mark(s.own("end"))
}

func (s *seat) writeFor(p *paper) {
	name, to, below, one, sum := s.own("name"), s.own("to"), s.own("below"), s.own("one"), s.own("sum")
	s.beneath[0].writeExpr(p)
	p.put("move", 0, "D", name, "A", s.beneath[0].result())
	s.beneath[1].writeExpr(p)
	p.put("move", 0, "D", to, "A", s.beneath[1].result())
	p.mark(s.own("again"))
	p.sign(below, "<", 1, name, to)
	p.put("zero", 0, "A", below, "B", s.own("end"), "C", s.own("end"))
	s.beneath[2].writeBlock(p)
	p.put("const", 1, "D", one)
	p.sign(sum, "+", 1, name, one)
	p.put("move", 0, "D", name, "A", sum)
	p.put("jump", 0, "A", s.own("again"))
	p.mark(s.own("end"))
}

func (s *seat) writeBlock(p *paper) {
	for _, kid := range s.beneath {
		kid.writeStatement(p)
	}
}

// numbered: registers in the order in which they are written first, marks by the
// lines ahead of them; how many registers there are.
func (p paper) numbered() ([]impl.Instr, int) {
	var lines []line
	numbers, regs := map[string]int{}, map[string]int{}
	for _, l := range p {
		if l.mark != "" {
			numbers[l.mark] = len(lines)
			continue
		}
		lines = append(lines, l)
		if _, ok := regs[l.is["D"]]; !ok && l.is["D"] != "" {
			regs[l.is["D"]] = len(regs)
		}
	}
	var code []impl.Instr
	for _, l := range lines {
		i := impl.Instr{Op: opNamed(l.op), Word: l.word}
		for field, name := range l.is {
			value, ok := regs[name]
			if ops[i.Op].holds[field] == "number" {
				value, ok = numbers[name]
			}
			if !ok {
				panic(name)
			}
			i = withField(i, field, value)
		}
		code = append(code, i)
	}
	return code, len(regs)
}

// paperOf: of a kernel with types.
func paperOf(l []impl.Node) paper {
	p, words := paper{}, uint32(4)
	k := seatsOf(l)
	for _, param := range k.beneath[:len(k.beneath)-1] {
		if !param.isBuffer() {
			p.put("in", words, "D", param.own("name"))
			words++
		}
	}
	k.beneath[len(k.beneath)-1].writeBlock(&p)
	p.put("end", 0)
	return p
}

func wantCompiled(l []impl.Node) ([]impl.Instr, bool) {
	if len(wantTyped(l).Types) == 0 {
		return nil, false
	}
	code, regs := paperOf(l).numbered()
	if len(code) > 600 || regs > 400 {
		return nil, false
	}
	return code, true
}

func wantCodeLaunch(x impl.Launch) bool {
	for _, buffer := range x.Buffers {
		if len(buffer) > 64 {
			return false
		}
	}
	return x.Groups >= 1 && x.Groups <= 4 && x.Size >= 1 && x.Size <= 8 && len(x.Words) <= 16 && len(x.Buffers) <= 16
}

// walker: a thread that does code.
type walker struct {
	group, local int
	at           int
	stops        bool // at a barrier or an end
	regs         map[int]uint32
}

// stroll: a run of code.
type stroll struct {
	code    []impl.Instr
	x       impl.Launch
	written map[[2]int]uint32 // words by buffer and place
	group   []*walker
	steps   int
	did     map[int]int // how often each instruction was done
}

func wantRanCode(l []impl.Instr, x impl.Launch) impl.Ran {
	ran, _ := strolled(l, x)
	return ran
}

func strolled(l []impl.Instr, x impl.Launch) (impl.Ran, *stroll) {
	s := &stroll{code: l, x: x, written: map[[2]int]uint32{}, did: map[int]int{}}
	if !wantCode(l) || !wantCodeLaunch(x) {
		return impl.Ran{Code: impl.RunBad}, s
	}
	for group := range x.Groups {
		s.group = nil
		for local := range x.Size {
			s.group = append(s.group, &walker{group: group, local: local, regs: map[int]uint32{}})
		}
		for {
			w := s.next()
			if w == nil {
				break
			}
			if s.steps == 100000 {
				return impl.Ran{Code: impl.RunSteps}, s
			}
			s.walk(w)
			if w.stops && w.local > 0 && s.held(s.group[w.local-1]) != s.held(w) {
				return impl.Ran{Code: impl.RunStuck}, s
			}
		}
	}
	return s.ran(), s
}

// held: what a thread that stops is held against others by.
func (s *stroll) held(w *walker) string {
	if s.code[w.at].Op == impl.IEnd {
		return "end"
	}
	return strconv.Itoa(w.at)
}

// next: the first thread that does not stop; where all do they pass their
// barrier; nil where all have ended.
func (s *stroll) next() *walker {
	for {
		for _, w := range s.group {
			if !w.stops {
				return w
			}
		}
		if s.held(s.group[0]) == "end" {
			return nil
		}
		for _, w := range s.group {
			w.stops = false
			w.at++
		}
	}
}

func (s *stroll) walk(w *walker) {
	i := s.code[w.at]
	s.steps++
	s.did[w.at]++
	next := w.at + 1
	var read []uint32
	for _, reg := range wantRead(i) {
		read = append(read, w.regs[reg])
	}
	switch ops[i.Op].name {
	case "barrier", "end":
		w.stops, next = true, w.at
	case "jump":
		next = i.A
	case "zero":
		if read[0] == 0 {
			next = i.B
		}
	case "store":
		if _, ok := s.wordAt(i.Word, read[0]); ok {
			s.written[[2]int{int(i.Word), int(read[0])}] = read[1]
		}
	default:
		w.regs[i.D] = s.made(w, i, read)
	}
	w.at = next
}

func (s *stroll) made(w *walker, i impl.Instr, read []uint32) uint32 {
	switch ops[i.Op].name {
	case "const":
		return i.Word
	case "move":
		return read[0]
	case "op":
		return wantOp(wantSigns[i.Word/4], int(i.Word%4), read[0], read[1])
	case "call":
		return wantCall(wantCalls[i.Word/4], int(i.Word%4), read)
	case "in":
		words := append(wholes(w.group*s.x.Size+w.local, w.local, w.group, s.x.Size), s.x.Words...)
		return append(words, make([]uint32, 1000)...)[i.Word]
	case "load":
		word, _ := s.wordAt(i.Word, read[0])
		return word
	case "not":
		return map[bool]uint32{true: 1}[read[0]/2*2 == read[0]]
	}
	return wantAhead('f', read[0])
}

// wordAt: the word at a place of a buffer, if there is one.
func (s *stroll) wordAt(buffer, place uint32) (uint32, bool) {
	if int(buffer) >= len(s.x.Buffers) || int(place) >= len(s.x.Buffers[buffer]) {
		return 0, false
	}
	if word, ok := s.written[[2]int{int(buffer), int(place)}]; ok {
		return word, true
	}
	return s.x.Buffers[buffer][place], true
}

func (s *stroll) ran() impl.Ran {
	r := impl.Ran{Steps: s.steps}
	for n, buffer := range s.x.Buffers {
		buffer = slices.Clone(buffer)
		for at, word := range s.written {
			if at[0] == n {
				buffer[at[1]] = word
			}
		}
		r.Buffers = append(r.Buffers, buffer)
	}
	return r
}
