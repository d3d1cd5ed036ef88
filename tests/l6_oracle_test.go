package tests

import (
	"math"
	"math/big"
	"slices"
	"strconv"
	"strings"

	"loop.example/g00053/impl"
)

// What a thread reckons, another way: whole numbers as big ones that are cut to
// 32 bits in the end, floats by the machine or by the fractions of chapter 1,
// expressions as trees from the root down.

// signed: a word as a whole number.
func signed(a uint32) int64 {
	if a >= minus {
		return int64(a) - 1<<32
	}
	return int64(a)
}

// wrapped: a whole number of any size as a word.
func wrapped(n *big.Int) uint32 {
	return uint32(new(big.Int).Mod(n, big.NewInt(1<<32)).Uint64())
}

func wordOf(holds bool) uint32 {
	return map[bool]uint32{true: 1}[holds]
}

// bitByBit: a word of what holds of each two bits.
func bitByBit(a, b uint32, holds func(x, y bool) bool) uint32 {
	w := uint32(0)
	for bit := uint32(1); bit > 0; bit *= 2 {
		if holds(a/bit%2 == 1, b/bit%2 == 1) {
			w += bit
		}
	}
	return w
}

// wantWholes6: a sign between two whole numbers.
func wantWholes6(op string, a, b uint32) uint32 {
	x, y := big.NewInt(signed(a)), big.NewInt(signed(b))
	step := new(big.Int).Exp(big.NewInt(2), new(big.Int).Mod(y, big.NewInt(32)), nil)
	n := new(big.Int)
	switch op {
	case "+":
		n.Add(x, y)
	case "-":
		n.Sub(x, y)
	case "*":
		n.Mul(x, y)
	case "/":
		if b != 0 {
			n.Quo(x, y)
		}
	case "%":
		if b != 0 {
			n.Rem(x, y)
		}
	case "<<":
		n.Mul(x, step)
	case ">>":
		n.Div(x, step) // towards the lesser one, as the step is above 0
	case "&":
		return bitByBit(a, b, func(x, y bool) bool { return x && y })
	case "|":
		return bitByBit(a, b, func(x, y bool) bool { return x || y })
	case "^":
		return bitByBit(a, b, func(x, y bool) bool { return x != y })
	default:
		return wantCompared(op, float64(signed(a)), float64(signed(b)))
	}
	return wrapped(n)
}

// wantCompared: all whole numbers and floats of 32 bits are floats of 64, too.
func wantCompared(op string, x, y float64) uint32 {
	switch op {
	case "==":
		return wordOf(x == y)
	case "!=":
		return wordOf(x != y)
	case "<":
		return wordOf(x < y)
	case "<=":
		return wordOf(x <= y)
	case ">":
		return wordOf(x > y)
	case ">=":
		return wordOf(x >= y)
	}
	panic(op)
}

// wantFloats6: a sign between two floats, by the machine.
func wantFloats6(op string, a, b uint32) uint32 {
	x, y := math.Float32frombits(a), math.Float32frombits(b)
	switch op {
	case "+":
		return bitsOf(x + y)
	case "-":
		return bitsOf(x - y)
	case "*":
		return bitsOf(x * y)
	case "/":
		return bitsOf(x / y)
	}
	return wantCompared(op, float(a), float(b))
}

func wantBools6(op string, a, b uint32) uint32 {
	switch op {
	case "&&":
		return wordOf(a > 0 && b > 0)
	case "||":
		return wordOf(a > 0 || b > 0)
	case "==":
		return wordOf(a^b == 0)
	case "!=":
		return wordOf(a^b > 0)
	}
	panic(op)
}

// operandsOfKind: the letters of so many operands of a kind, a letter that is none
// for what is no kind.
func operandsOfKind(kind, count int) string {
	if kind < 1 || kind > 3 {
		return strings.Repeat("?", count+1)
	}
	return strings.Repeat(typeLetters[kind:kind+1], count)
}

func wantOp(op string, kind int, a, b uint32) uint32 {
	if !slices.Contains(betweenSigns, op) || wantOutcome(op, operandsOfKind(kind, 2)) == '-' {
		return 0
	}
	switch kind {
	case impl.TWhole:
		return wantWholes6(op, a, b)
	case impl.TFloat:
		return wantFloats6(op, a, b)
	}
	return wantBools6(op, a, b)
}

func wantCall(name string, kind int, args []uint32) uint32 {
	arity, ok := wantArity[name]
	if !ok || arity == 0 || arity != len(args) || wantOutcome(name, operandsOfKind(kind, arity)) == '-' {
		return 0
	}
	if kind == impl.TWhole {
		return wantWholeCall(name, args)
	}
	return wantFloatCall(name, args)
}

func wantWholeCall(name string, args []uint32) uint32 {
	l := []*big.Int{}
	for _, a := range args {
		l = append(l, big.NewInt(signed(a)))
	}
	switch name {
	case "abs":
		return wrapped(l[0].Abs(l[0]))
	case "min", "max":
		slices.SortFunc(l, func(x, y *big.Int) int { return x.Cmp(y) })
		return wrapped(l[map[string]int{"max": 1}[name]])
	case "float":
		return wantToFloat(args[0])
	case "int":
		return args[0]
	}
	return 0
}

func wantFloatCall(name string, args []uint32) uint32 {
	x := float(args[0])
	switch name {
	case "abs":
		return bitsOf(float32(math.Abs(x)))
	case "min":
		return wantChosen(args[0], args[1], func(x, y float64) bool { return y < x })
	case "max":
		return wantChosen(args[0], args[1], func(x, y float64) bool { return y > x })
	case "fma":
		return wantFuse(args[0], args[1], args[2])[impl.NearEven]
	case "sqrt":
		return bitsOf(float32(math.Sqrt(x))) // 64 bits are enough for the nearest of 32
	case "float":
		return args[0]
	}
	return wantToWhole(args[0])
}

func wantChosen(a, b uint32, second func(x, y float64) bool) uint32 {
	x, y := float(a), float(b)
	switch {
	case x != x || y != y:
		return impl.TheNaN
	case second(x, y):
		return b
	}
	return a
}

func wantToFloat(a uint32) uint32 {
	f, _ := new(big.Rat).SetInt64(signed(a)).Float32()
	return bitsOf(f)
}

func wantToWhole(a uint32) uint32 {
	return wrapped(big.NewInt(int64(wantWhole(a)[impl.ToZero])))
}

// worth: the letter of an expression and its value; `-` where it has none. It
// panics at what hangs on a thread.
func worth(t tree) (byte, uint32) {
	letters, words := "", []uint32{}
	for _, kid := range t.kids {
		letter, word := worth(kid)
		letters += string(letter)
		words = append(words, word)
	}
	switch t.kind {
	case impl.NWhole:
		n, _ := strconv.ParseInt(t.text, 10, 64)
		return 'i', wrapped(big.NewInt(n))
	case impl.NFloat:
		return 'f', wantFloat(t.text)
	case impl.NBool:
		return 'b', wordOf(t.text == "true")
	}
	return worthOf(t.kind, t.text, letters, words)
}

// worthOf: the same of an operation, by the letters and words of its operands.
func worthOf(node int, text, letters string, words []uint32) (byte, uint32) {
	letter := wantOutcome(text, letters)
	if letter == '-' {
		return '-', 0
	}
	if node == impl.NUnary {
		return letter, wantAhead(letter, words[0])
	}
	kind := strings.IndexByte(typeLetters, letters[0])
	if strings.Contains(letters, "f") || text == "fma" || text == "sqrt" {
		kind = impl.TFloat
		for i := range words {
			if letters[i] == 'i' {
				words[i] = wantToFloat(words[i])
			}
		}
	}
	if node == impl.NCall {
		return letter, wantCall(text, kind, words)
	}
	return letter, wantOp(text, kind, words[0], words[1])
}

// wantAhead: the one sign ahead that what is of a letter may have.
func wantAhead(letter byte, a uint32) uint32 {
	switch letter {
	case 'i':
		return wrapped(big.NewInt(-signed(a)))
	case 'f':
		return bitsOf(-math.Float32frombits(a))
	}
	return wordOf(a == 0)
}

// hangs: whether an expression hangs on what is known only as a thread runs.
func hangs(t tree) bool {
	return t.kind == impl.NName || t.kind == impl.NLoad || t.kind == impl.NCall && len(t.kids) == 0 || slices.ContainsFunc(t.kids, hangs)
}

func wantConst(l []impl.Node) (int, uint32, bool) {
	t, end, ok := treeAt(l, 0)
	if len(l) > 250 || !ok || end != len(l) || !goodExpr(t) || hangs(t) {
		return 0, 0, false
	}
	letter, word := worth(t)
	return strings.IndexByte(typeLetters, letter), word, letter != '-'
}

// wantFolded: a tree with its kids folded, and itself.
func wantFolded(t tree) tree {
	kids := t.kids
	t.kids = nil
	for _, kid := range kids {
		t.kids = append(t.kids, wantFolded(kid))
	}
	if !goodExpr(t) || t.kind == impl.NWhole || t.kind == impl.NBool || hangs(t) {
		return t
	}
	if t.text == "-" && len(t.kids) == 1 && t.kids[0].kind == impl.NWhole && t.kids[0].text != "0" {
		return t
	}
	letter, word := worth(t)
	switch {
	case letter == 'b':
		return tree{kind: impl.NBool, text: strconv.FormatBool(word == 1)}
	case letter == 'i' && word < minus:
		return tree{kind: impl.NWhole, text: strconv.FormatInt(signed(word), 10)}
	case letter == 'i' && word > minus:
		return tree{impl.NUnary, "-", []tree{{kind: impl.NWhole, text: strconv.FormatInt(-signed(word), 10)}}}
	}
	return t
}

func wantFold(l []impl.Node) ([]impl.Node, bool) {
	if len(wantTyped(l).Types) == 0 {
		return nil, false
	}
	t, _, _ := treeAt(l, 0)
	if folded := wantFolded(t).nodes(); wantGood(folded) {
		return folded, true
	}
	return l, true
}

var someWholes = strings.Fields("0 0 1 1 2 3 7 8 31 32 33 64 255 256 65535 65536 16777215 16777216 16777217 1073741824 2147483646 2147483647 2147483647")

var someFloatTexts = strings.Fields("0.0 0.0 1.0 0.5 1.5 2.5 0.000000001 3.999999999 16777216.0 16777217.0 999999999.0 999999999.999999999 0.1 0.333333333 0.25 4.0")

// constLeaf: a number or a bool.
func (c chance) constLeaf(letter byte) tree {
	switch {
	case letter == 'b':
		return tree{kind: impl.NBool, text: strconv.FormatBool(c.Intn(2) == 0)}
	case letter == 'f' && c.Intn(3) == 0:
		return tree{kind: impl.NFloat, text: c.floatText()}
	case letter == 'f':
		return tree{kind: impl.NFloat, text: someFloatTexts[c.Intn(len(someFloatTexts))]}
	case c.Intn(3) == 0:
		return tree{kind: impl.NWhole, text: c.plain(1 + c.Intn(9))}
	}
	return tree{kind: impl.NWhole, text: someWholes[c.Intn(len(someWholes))]}
}

// constExpr: an expression of a letter and about n nodes that hangs on nothing.
func (c chance) constExpr(letter byte, n int) tree {
	if n <= 1 {
		return c.constLeaf(letter)
	}
	o := c.outcomeOf(letter, 1)
	return o.applied(func(letter byte) tree { return c.constExpr(letter, (n-1)/len(o.operands)) })
}

// withConsts: a kernel with types in which many an expression hangs on nothing;
// types are as they were.
func (c chance) withConsts(l []impl.Node) []impl.Node {
	types := wantTyped(l).Types
	var out []impl.Node
	for at := 0; at < len(l); {
		if l[at].Kind > impl.NCall || c.Intn(3) > 0 {
			out = append(out, l[at])
			at++
			continue
		}
		out = append(out, c.constExpr(typeLetters[types[at]], 1+c.Intn(7)).nodes()...)
		at = impl.NodeEnd(l, at)
	}
	return out
}

// kernelWithConsts: a kernel with types in which much can be folded.
func (c chance) kernelWithConsts(n int) []impl.Node {
	for {
		if l := c.withConsts(c.kernelWithTypes(n, 0).nodes()); wantGood(l) {
			return l
		}
	}
}
