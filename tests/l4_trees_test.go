package tests

import (
	"slices"

	"loop.example/g00053/impl"
)

// Which trees are good, node by node and without their text; and trees by
// chance.

func calledName(text string) bool { return wantName(text) && !isCall(text) }

func numberOfKind(kind int, text string) bool {
	return kindOfText(text) == kind && faultOfText(kind, text) == 0
}

func goodExprs(l []tree) bool {
	return !slices.ContainsFunc(l, func(t tree) bool { return !goodExpr(t) })
}

func goodExpr(t tree) bool {
	kids := len(t.kids)
	switch t.kind {
	case impl.NWhole:
		return kids == 0 && numberOfKind(impl.TokWhole, t.text)
	case impl.NFloat:
		return kids == 0 && numberOfKind(impl.TokFloat, t.text)
	case impl.NBool:
		return kids == 0 && (t.text == "true" || t.text == "false")
	case impl.NName:
		return kids == 0 && calledName(t.text)
	case impl.NLoad:
		return kids == 1 && calledName(t.text) && goodExprs(t.kids)
	case impl.NUnary:
		return kids == 1 && (t.text == "-" || t.text == "!") && goodExprs(t.kids)
	case impl.NBinary:
		return kids == 2 && wantStrength[t.text] > 0 && goodExprs(t.kids)
	case impl.NCall:
		return isCall(t.text) && kids == wantArity[t.text] && goodExprs(t.kids)
	}
	return false
}

func goodBlock(t tree) bool {
	return t.kind == impl.NBlock && t.text == "" && !slices.ContainsFunc(t.kids, func(t tree) bool { return !goodStatement(t) })
}

func goodStatement(t tree) bool {
	kids := len(t.kids)
	switch t.kind {
	case impl.NLet, impl.NSet:
		return kids == 1 && calledName(t.text) && goodExprs(t.kids)
	case impl.NStore:
		return kids == 2 && calledName(t.text) && goodExprs(t.kids)
	case impl.NIf:
		return (kids == 2 || kids == 3) && t.text == "" && goodExpr(t.kids[0]) && goodBlock(t.kids[1]) && goodBlock(t.kids[kids-1])
	case impl.NFor:
		return kids == 3 && calledName(t.text) && goodExprs(t.kids[:2]) && goodBlock(t.kids[2])
	case impl.NBarrier:
		return kids == 0 && t.text == ""
	}
	return false
}

func goodTree(t tree) bool {
	kids := len(t.kids)
	if t.kind != impl.NKernel || !calledName(t.text) || kids < 1 || kids > 7 {
		return false
	}
	for _, p := range t.kids[:kids-1] {
		if p.kind < impl.NWholeIn || p.kind > impl.NFloatBuf || len(p.kids) > 0 || !calledName(p.text) {
			return false
		}
	}
	return goodBlock(t.kids[kids-1])
}

// deepest: how many brackets and signs ahead are open at once in a good tree,
// where some are open around it.
func deepest(t tree, open int) int {
	inner := open
	switch t.kind {
	case impl.NLoad, impl.NUnary, impl.NCall, impl.NBlock:
		inner++
	}
	deep := inner
	for i, kid := range t.kids {
		around := inner
		if t.kind == impl.NStore && i == 0 { // its place; its value is outside
			around++
		}
		if kid.kind == impl.NBinary && needsBrackets(t, i) {
			around++
		}
		deep = max(deep, around, deepest(kid, around))
	}
	return deep
}

// needsBrackets: whether a kid with a sign between two stands in brackets.
func needsBrackets(t tree, kid int) bool {
	switch inner := wantStrength[t.kids[kid].text]; t.kind {
	case impl.NUnary:
		return true
	case impl.NBinary:
		outer := wantStrength[t.text]
		return inner < outer || inner == outer && kid == 1
	}
	return false
}

func wantGood(l []impl.Node) bool {
	t, end, ok := treeAt(l, 0)
	return ok && end == len(l) && len(l) <= 250 && goodTree(t) && deepest(t, 0) <= 10
}

// called: a name that is none of a call.
func (c chance) called() string {
	if c.Intn(3) > 0 {
		return string(rune('a' + c.Intn(4)))
	}
	for {
		if s := c.name(); !isCall(s) {
			return s
		}
	}
}

// expr: an expression of about n nodes.
func (c chance) expr(n int) tree {
	if n <= 1 {
		switch c.Intn(6) {
		case 0:
			return tree{kind: impl.NFloat, text: c.floatText()}
		case 1:
			return tree{kind: impl.NBool, text: [...]string{"true", "false"}[c.Intn(2)]}
		case 2:
			return tree{kind: impl.NCall, text: [...]string{"group", "local", "size", "tid"}[c.Intn(4)]}
		case 3:
			return tree{kind: impl.NWhole, text: c.plain(1 + c.Intn(9))}
		}
		return tree{kind: impl.NName, text: c.called()}
	}
	switch c.Intn(8) {
	case 0:
		return tree{impl.NLoad, c.called(), []tree{c.expr(n - 1)}}
	case 1, 2:
		return tree{impl.NUnary, [...]string{"-", "!"}[c.Intn(2)], []tree{c.expr(n - 1)}}
	case 3:
		name := wantCalls[c.Intn(len(wantCalls))]
		return tree{impl.NCall, name, c.exprs(wantArity[name], n-1)}
	}
	left := 1 + c.Intn(n)
	return tree{impl.NBinary, betweenSigns[c.Intn(len(betweenSigns))], []tree{c.expr(left), c.expr(n - 1 - left)}}
}

// exprs: so many expressions of about n nodes together.
func (c chance) exprs(count, n int) []tree {
	var l []tree
	for range count {
		l = append(l, c.expr(n/count))
	}
	return l
}

func (c chance) statement(n int) tree {
	switch c.Intn(7) {
	case 0:
		return tree{impl.NSet, c.called(), c.exprs(1, n-1)}
	case 1:
		return tree{impl.NStore, c.called(), c.exprs(2, n-1)}
	case 2:
		return tree{impl.NIf, "", []tree{c.expr(n / 3), c.block(n / 2)}}
	case 3:
		return tree{impl.NIf, "", []tree{c.expr(n / 4), c.block(n / 3), c.block(n / 3)}}
	case 4:
		return tree{impl.NFor, c.called(), append(c.exprs(2, n/3), c.block(n/2))}
	case 5:
		return tree{kind: impl.NBarrier}
	}
	return tree{impl.NLet, c.called(), c.exprs(1, n-1)}
}

func (c chance) block(n int) tree {
	t := tree{kind: impl.NBlock}
	for n > 0 && c.Intn(8) > 0 {
		size := 1 + c.Intn(n)
		t.kids = append(t.kids, c.statement(size))
		n -= size
	}
	return t
}

// anyKernel: a kernel of about n nodes that may be too deep, or too many.
func (c chance) anyKernel(n int) tree {
	t := tree{kind: impl.NKernel, text: c.called()}
	for range c.Intn(7) {
		t.kids = append(t.kids, tree{kind: impl.NWholeIn + c.Intn(4), text: c.called()})
	}
	t.kids = append(t.kids, c.block(n))
	return t
}

// goodKernel: a good kernel of about n nodes.
func (c chance) goodKernel(n int) tree {
	for {
		if t := c.anyKernel(n); wantGood(t.nodes()) {
			return t
		}
	}
}

// brackets: an expression with brackets where they must stand, and by chance
// where they need not.
func (c chance) brackets(t tree) []string {
	for {
		l := bracketed(t, func(bool) int { return max(0, c.Intn(4)-1) })
		if slices.Equal(exprOf(l).nodes(), t.nodes()) {
			return l
		}
		if c.Intn(4) == 0 {
			return fewest(t)
		}
	}
}

// spread: tokens as a source, with what may stand between them.
func (c chance) spread(l []string) string {
	source := ""
	for _, text := range l {
		source += text + [...]string{" ", " ", "\n", "\t ", " // a ( \n", " //\xff\n"}[c.Intn(6)]
	}
	return source
}
