package tests

import (
	"slices"
	"strings"

	"loop.example/g00053/impl"
)

// Kernels another way: which token can stand is told by all readings at once of
// rules that are written out, trees by cutting at the weakest sign, and the
// fewest brackets by leaving each pair out.

var wantCalls = strings.Fields("abs float fma group int local max min size sqrt tid")

var wantArity = map[string]int{"abs": 1, "float": 1, "fma": 3, "group": 0, "int": 1, "local": 0, "max": 2, "min": 2, "size": 0, "sqrt": 1, "tid": 0}

var wantStrength = map[string]int{
	"||": 1, "&&": 2, "|": 3, "^": 4, "&": 5, "==": 6, "!=": 6, "<": 7, "<=": 7, ">": 7, ">=": 7,
	"<<": 8, ">>": 8, "+": 9, "-": 9, "*": 10, "/": 10, "%": 10,
}

// betweenSigns: the signs between two, rising.
var betweenSigns = strings.Fields("!= % & && * + - / < << <= == > >= >> ^ | ||")

// isCall: whether a text is the name of a call.
func isCall(text string) bool { return slices.Contains(wantCalls, text) }

// The rules: <..> is a rule's, NAME, WHOLE and NUMBER are kinds of tokens, all
// others stand for themselves.
const kernelRules = `
<kernel> = kernel NAME ( ) <block>
<kernel> = kernel NAME ( <p1> ) <block>
<p1> = <p>
<p1> = <p> , <p2>
<p2> = <p>
<p2> = <p> , <p3>
<p3> = <p>
<p3> = <p> , <p4>
<p4> = <p>
<p4> = <p> , <p5>
<p5> = <p>
<p5> = <p> , <p>
<p> = int NAME
<p> = float NAME
<p> = buffer int NAME
<p> = buffer float NAME
<block> = { <list> }
<list> =
<list> = <list> <statement>
<statement> = let NAME = <e1> ;
<statement> = NAME = <e1> ;
<statement> = NAME [ <e1> ] = <e1> ;
<statement> = if <e1> <block>
<statement> = if <e1> <block> else <block>
<statement> = for NAME in <e1> .. <e1> <block>
<statement> = barrier ;
<e1> = <e2>
<e1> = <e1> || <e2>
<e2> = <e3>
<e2> = <e2> && <e3>
<e3> = <e4>
<e3> = <e3> | <e4>
<e4> = <e5>
<e4> = <e4> ^ <e5>
<e5> = <e6>
<e5> = <e5> & <e6>
<e6> = <e7>
<e6> = <e6> == <e7>
<e6> = <e6> != <e7>
<e7> = <e8>
<e7> = <e7> < <e8>
<e7> = <e7> <= <e8>
<e7> = <e7> > <e8>
<e7> = <e7> >= <e8>
<e8> = <e9>
<e8> = <e8> << <e9>
<e8> = <e8> >> <e9>
<e9> = <e10>
<e9> = <e9> + <e10>
<e9> = <e9> - <e10>
<e10> = <operand>
<e10> = <e10> * <operand>
<e10> = <e10> / <operand>
<e10> = <e10> % <operand>
<operand> = - <operand>
<operand> = ! <operand>
<operand> = ( <e1> )
<operand> = WHOLE
<operand> = NUMBER
<operand> = true
<operand> = false
<operand> = NAME
<operand> = NAME [ <e1> ]
<operand> = abs ( <e1> )
<operand> = float ( <e1> )
<operand> = fma ( <e1> , <e1> , <e1> )
<operand> = group ( )
<operand> = int ( <e1> )
<operand> = local ( )
<operand> = max ( <e1> , <e1> )
<operand> = min ( <e1> , <e1> )
<operand> = size ( )
<operand> = sqrt ( <e1> )
<operand> = tid ( )
`

type rule struct {
	of string
	by []string
}

var rules = func() []rule {
	var l []rule
	for _, line := range strings.Split(strings.TrimSpace(kernelRules), "\n") {
		words := strings.Fields(line)
		l = append(l, rule{words[0], words[2:]})
	}
	return l
}()

// reading: a rule, how much of it is read, and at which token it began.
type reading struct{ rule, read, from int }

// chart: behind each token that was read all readings that there are of it and
// those ahead of it.
type chart [][]reading

func (r reading) wants() string {
	if by := rules[r.rule].by; r.read < len(by) {
		return by[r.read]
	}
	return ""
}

// add takes a reading with all that follow from it without another token.
func (c chart) add(r reading) {
	at := len(c) - 1
	if slices.Contains(c[at], r) {
		return
	}
	c[at] = append(c[at], r)
	wants := r.wants()
	for i, next := range rules {
		if next.of == wants {
			c.add(reading{i, 0, at})
		}
	}
	if wants == "<list>" { // it may be empty
		c.add(reading{r.rule, r.read + 1, r.from})
	}
	if wants == "" {
		for _, before := range slices.Clone(c[r.from]) {
			if before.wants() == rules[r.rule].of {
				c.add(reading{before.rule, before.read + 1, before.from})
			}
		}
	}
}

// next: the chart behind one token more, and whether that token can stand.
func (c chart) next(class string) (chart, bool) {
	was := c[len(c)-1]
	c = append(c[:len(c):len(c)], nil)
	for _, r := range was {
		if r.wants() == class {
			c.add(reading{r.rule, r.read + 1, r.from})
		}
	}
	return c, len(c[len(c)-1]) > 0
}

// whole: whether what was read is a kernel.
func (c chart) whole() bool {
	return slices.ContainsFunc(c[len(c)-1], func(r reading) bool { return rules[r.rule].of == "<kernel>" && r.wants() == "" })
}

func newChart() chart {
	c := chart{nil}
	c.add(reading{0, 0, 0})
	c.add(reading{1, 0, 0})
	return c
}

// classOf: what rules call a token.
func classOf(token impl.Token) string {
	switch {
	case isCall(token.Text):
		return token.Text
	case token.Kind == impl.TokName:
		return "NAME"
	case token.Kind == impl.TokWhole:
		return "WHOLE"
	case token.Kind == impl.TokFloat:
		return "NUMBER"
	}
	return token.Text
}

// standing: how many tokens can stand behind those of a chart, and whether a
// kernel ends there.
func (c chart) standing(l []impl.Token) (int, bool) {
	for i, token := range l {
		next, ok := c.next(classOf(token))
		if !ok {
			return i, false
		}
		c = next
	}
	return len(l), c.whole()
}

// endsOperand: whether an operand may end with a text.
func endsOperand(text string) bool {
	return slices.Contains([]string{")", "]", "true", "false"}, text) || !slices.Contains(wantSigns, text) && !slices.Contains(wantWords, text)
}

// shallow: of tokens that can stand how many there are ahead of the one that is
// too deep.
func shallow(l []impl.Token) int {
	var open []string
	for i, token := range l {
		ahead := (token.Text == "-" || token.Text == "!") && (i == 0 || !endsOperand(l[i-1].Text))
		switch {
		case ahead || strings.Contains("([{", token.Text):
			if len(open) == 10 {
				return i
			}
			open = append(open, token.Text)
			continue
		case strings.Contains(")]}", token.Text):
			open = open[:len(open)-1]
		case i+1 < len(l) && strings.Contains("([", l[i+1].Text):
			continue // the operand goes on
		}
		for endsOperand(token.Text) && len(open) > 0 && strings.Contains("-!", open[len(open)-1]) {
			open = open[:len(open)-1]
		}
	}
	return len(l)
}

// wantParsed: what is read of a source. The tokens are chapter 3's.
func wantParsed(source string) impl.Parsed {
	return newChart().wantParsed(source, 0)
}

// wantParsed: of a source whose first tokens were read already.
func (c chart) wantParsed(source string, read int) impl.Parsed {
	lexed := impl.ReadTokens(source)
	if lexed.Code != 0 {
		return impl.Parsed{Code: lexed.Code, At: lexed.At}
	}
	l := lexed.Tokens
	standing, whole := c.standing(l[read:])
	standing += read
	at := len(source)
	if standing < len(l) {
		at = l[standing].At
	}
	if deep := shallow(l[:standing]); deep < standing {
		return impl.Parsed{Code: impl.SynDeep, At: l[deep].At}
	}
	if !whole {
		return impl.Parsed{Code: impl.SynToken, At: at}
	}
	var texts []string
	for _, token := range l {
		texts = append(texts, token.Text)
	}
	nodes := kernelOf(texts).nodes()
	if len(nodes) > 250 {
		return impl.Parsed{Code: impl.SynMany}
	}
	return impl.Parsed{Nodes: nodes}
}

// tree: nodes with what is beneath them.
type tree struct {
	kind int
	text string
	kids []tree
}

func (t tree) nodes() []impl.Node {
	l := []impl.Node{{Kind: t.kind, Text: t.text, Kids: len(t.kids)}}
	for _, kid := range t.kids {
		l = append(l, kid.nodes()...)
	}
	return l
}

// treeAt: the tree of the node at a place, and the place behind it.
func treeAt(l []impl.Node, at int) (tree, int, bool) {
	if at < 0 || at >= len(l) || l[at].Kids < 0 {
		return tree{}, 0, false
	}
	t := tree{kind: l[at].Kind, text: l[at].Text}
	end := at + 1
	for range l[at].Kids {
		kid, next, ok := treeAt(l, end)
		if !ok {
			return tree{}, 0, false
		}
		t.kids = append(t.kids, kid)
		end = next
	}
	return t, end, true
}

// weakest: the last of the weakest signs between two outside of brackets, 0 if
// there is none.
func weakest(l []string) int {
	at, open := 0, 0
	for i, text := range l {
		switch text {
		case "(", "[":
			open++
		case ")", "]":
			open--
		}
		strength := wantStrength[text]
		if open == 0 && i > 0 && strength > 0 && endsOperand(l[i-1]) && (at == 0 || strength <= wantStrength[l[at]]) {
			at = i
		}
	}
	return at
}

func exprOf(l []string) tree {
	if at := weakest(l); at > 0 {
		return tree{impl.NBinary, l[at], []tree{exprOf(l[:at]), exprOf(l[at+1:])}}
	}
	switch {
	case l[0] == "-" || l[0] == "!":
		return tree{impl.NUnary, l[0], []tree{exprOf(l[1:])}}
	case l[0] == "(":
		return exprOf(l[1 : len(l)-1])
	case len(l) > 1 && l[1] == "[":
		return tree{impl.NLoad, l[0], []tree{exprOf(l[2 : len(l)-1])}}
	case len(l) > 1:
		return tree{impl.NCall, l[0], argsOf(l[2 : len(l)-1])}
	case l[0] == "true" || l[0] == "false":
		return tree{kind: impl.NBool, text: l[0]}
	}
	kinds := map[int]int{impl.TokName: impl.NName, impl.TokWhole: impl.NWhole, impl.TokFloat: impl.NFloat}
	return tree{kind: kinds[kindOfText(l[0])], text: l[0]}
}

func argsOf(l []string) []tree {
	var args []tree
	from, open := 0, 0
	for i, text := range l {
		switch text {
		case "(", "[":
			open++
		case ")", "]":
			open--
		case ",":
			if open == 0 {
				args = append(args, exprOf(l[from:i]))
				from = i + 1
			}
		}
	}
	if len(l) > 0 {
		args = append(args, exprOf(l[from:]))
	}
	return args
}

// closing: the place of the bracket that closes the one at a place.
func closing(l []string, at int) int {
	for open := 0; ; at++ {
		switch l[at] {
		case "(", "[", "{":
			open++
		case ")", "]", "}":
			open--
		}
		if open == 0 {
			return at
		}
	}
}

// statementOf: the first statement, and what stands behind it.
func statementOf(l []string) (tree, []string) {
	if l[0] == "if" || l[0] == "for" {
		return bracedOf(l)
	}
	end := slices.Index(l, ";")
	rest := l[end+1:]
	if l[0] == "barrier" {
		return tree{kind: impl.NBarrier}, rest
	}
	is := slices.Index(l, "=")
	value := exprOf(l[is+1 : end])
	switch {
	case l[0] == "let":
		return tree{impl.NLet, l[1], []tree{value}}, rest
	case is == 1:
		return tree{impl.NSet, l[0], []tree{value}}, rest
	}
	return tree{impl.NStore, l[0], []tree{exprOf(l[2 : is-1]), value}}, rest
}

func bracedOf(l []string) (tree, []string) {
	open := slices.Index(l, "{")
	end := closing(l, open)
	block := blockOf(l[open+1 : end])
	rest := l[end+1:]
	if l[0] == "for" {
		to := slices.Index(l, "..")
		return tree{impl.NFor, l[1], []tree{exprOf(l[3:to]), exprOf(l[to+1 : open]), block}}, rest
	}
	t := tree{impl.NIf, "", []tree{exprOf(l[1:open]), block}}
	if len(rest) > 0 && rest[0] == "else" {
		end := closing(rest, 1)
		t.kids = append(t.kids, blockOf(rest[2:end]))
		rest = rest[end+1:]
	}
	return t, rest
}

func blockOf(l []string) tree {
	t := tree{kind: impl.NBlock}
	for len(l) > 0 {
		var kid tree
		kid, l = statementOf(l)
		t.kids = append(t.kids, kid)
	}
	return t
}

// kernelOf: of the tokens of a kernel without a fault.
func kernelOf(l []string) tree {
	t := tree{kind: impl.NKernel, text: l[1]}
	end := slices.Index(l, ")")
	for _, words := range strings.Split(strings.Join(l[3:end], " "), ",") {
		if p := strings.Fields(words); len(p) > 0 {
			name := p[len(p)-1]
			t.kids = append(t.kids, tree{kind: wantParams[strings.Join(p[:len(p)-1], " ")], text: name})
		}
	}
	t.kids = append(t.kids, blockOf(l[end+2:len(l)-1]))
	return t
}

var wantParams = map[string]int{"int": impl.NWholeIn, "float": impl.NFloatIn, "buffer int": impl.NWholeBuf, "buffer float": impl.NFloatBuf}

// bracketed: an expression with as many pairs of round brackets around each of
// its operands, and within places and calls, as are told.
func bracketed(t tree, around func(operand bool) int) []string {
	within := func(kid tree, operand bool) []string {
		l := bracketed(kid, around)
		for range around(operand) {
			l = slices.Concat([]string{"("}, l, []string{")"})
		}
		return l
	}
	switch t.kind {
	case impl.NBinary:
		return slices.Concat(within(t.kids[0], true), []string{t.text}, within(t.kids[1], true))
	case impl.NUnary:
		return slices.Concat([]string{t.text}, within(t.kids[0], true))
	case impl.NLoad:
		return slices.Concat([]string{t.text, "["}, within(t.kids[0], false), []string{"]"})
	case impl.NCall:
		l := []string{t.text, "("}
		for i, kid := range t.kids {
			if i > 0 {
				l = append(l, ",")
			}
			l = append(l, within(kid, false)...)
		}
		return append(l, ")")
	}
	return []string{t.text}
}

// fewest: an expression without any pair of brackets that it can do without.
func fewest(t tree) []string {
	l := bracketed(t, func(operand bool) int {
		if operand {
			return 1
		}
		return 0
	})
	nodes := t.nodes()
	for at := 0; at < len(l); {
		if l[at] != "(" || at > 0 && isCall(l[at-1]) {
			at++
			continue
		}
		without := withoutPair(l, at)
		if slices.Equal(exprOf(without).nodes(), nodes) {
			l = without
		} else {
			at++
		}
	}
	return l
}

// withoutPair: tokens without the bracket at a place and its closing one.
func withoutPair(l []string, at int) []string {
	end := closing(l, at)
	return slices.Concat(l[:at], l[at+1:end], l[end+1:])
}

// textOf: the tokens of a statement, a block, a parameter or a kernel.
func textOf(t tree, expr func(tree) []string) []string {
	var kids [][]string
	for _, kid := range t.kids {
		if kid.kind <= impl.NCall {
			kids = append(kids, expr(kid))
		} else {
			kids = append(kids, textOf(kid, expr))
		}
	}
	is, end := []string{"="}, []string{";"}
	switch t.kind {
	case impl.NLet:
		return slices.Concat([]string{"let", t.text}, is, kids[0], end)
	case impl.NSet:
		return slices.Concat([]string{t.text}, is, kids[0], end)
	case impl.NStore:
		return slices.Concat([]string{t.text, "["}, kids[0], []string{"]"}, is, kids[1], end)
	case impl.NIf:
		l := slices.Concat([]string{"if"}, kids[0], kids[1])
		if len(kids) == 3 {
			l = slices.Concat(l, []string{"else"}, kids[2])
		}
		return l
	case impl.NFor:
		return slices.Concat([]string{"for", t.text, "in"}, kids[0], []string{".."}, kids[1], kids[2])
	case impl.NBarrier:
		return []string{"barrier", ";"}
	case impl.NBlock:
		return slices.Concat([]string{"{"}, slices.Concat(kids...), []string{"}"})
	case impl.NKernel:
		l := []string{"kernel", t.text, "("}
		for i, kid := range kids[:len(kids)-1] {
			if i > 0 {
				l = append(l, ",")
			}
			l = append(l, kid...)
		}
		return slices.Concat(l, []string{")"}, kids[len(kids)-1])
	}
	for text, kind := range wantParams {
		if kind == t.kind {
			return append(strings.Fields(text), t.text)
		}
	}
	panic("no such kind")
}

// wantShown: of a good kernel its tokens with the fewest brackets.
func wantShown(t tree) string { return strings.Join(textOf(t, fewest), " ") }
