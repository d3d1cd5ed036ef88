package tests

import (
	"math"
	"slices"
	"strings"
	"testing"

	"loop.example/g00053/impl"
)

// typesOrFault: a good kernel has one type a node, or a code at one of its
// nodes.
func typesOrFault(t *testing.T, l []impl.Node) impl.Typed {
	t.Helper()
	got := impl.TypeKernel(l)
	switch {
	case got.Code == 0 && (len(got.Types) != len(l) || got.At != 0):
		t.Errorf("TypeKernel(%v) = %v", l, got)
	case got.Code != 0 && (got.Code < impl.TypName || got.Code > impl.TypBarrier || got.At < 1 || got.At >= len(l) || len(got.Types) > 0):
		t.Errorf("TypeKernel(%v) = %v", l, got)
	case got.Code != 0 && !slices.Contains(everyFault, told5{got.Code, l[got.At].Kind}):
		t.Errorf("TypeKernel(%v) = %v: such a node has no such fault", l, got)
	}
	return got
}

// kidsOf: the places of a node's kids.
func kidsOf(l []impl.Node, at int) []int {
	var kids []int
	next := at + 1
	for range l[at].Kids {
		kids = append(kids, next)
		next = impl.NodeEnd(l, next)
	}
	return kids
}

// agrees: whether a node's type goes with those of its kids.
func agrees(l []impl.Node, types []int, at int) bool {
	kids := ""
	for _, kid := range kidsOf(l, at) {
		kids += typeLetters[types[kid] : types[kid]+1]
	}
	own := typeLetters[types[at]]
	switch kind := l[at].Kind; kind {
	case impl.NWhole, impl.NWholeIn, impl.NWholeBuf:
		return own == 'i'
	case impl.NFloat, impl.NFloatIn, impl.NFloatBuf:
		return own == 'f'
	case impl.NBool:
		return own == 'b'
	case impl.NName:
		return own != '-'
	case impl.NLoad:
		return kids == "i" && (own == 'i' || own == 'f')
	case impl.NUnary, impl.NBinary, impl.NCall:
		return own != '-' && own == wantOutcome(l[at].Text, kids)
	case impl.NLet:
		return string(own) == kids
	case impl.NSet:
		return wantTakes(own, kids[0])
	case impl.NStore:
		return own == '-' && kids[0] == 'i' && strings.Contains("if", kids[1:])
	case impl.NIf:
		return own == '-' && kids[0] == 'b' && strings.Trim(kids[1:], "-") == ""
	case impl.NFor:
		return own == 'i' && kids == "ii-"
	case impl.NBarrier, impl.NBlock:
		return own == '-'
	case impl.NKernel:
		return own == '-' && strings.HasSuffix(kids, "-")
	}
	return false
}

// Promise 5: each node has one type, and it goes with those beneath it.
func TestPromise5TypesGoTogether(t *testing.T) {
	t.Parallel()
	c := newChance(87)
	typed := 0
	for n := range 2000 {
		l := c.kernelWithTypes(n%120, n%2*100).nodes()
		got := typesOrFault(t, l)
		if got.Code != 0 {
			continue
		}
		typed++
		for at := range l {
			if !agrees(l, got.Types, at) {
				t.Errorf("node %d of %v: %v", at, l, got)
			}
		}
	}
	if typed < 1000 {
		t.Errorf("only %d kernels have types", typed)
	}
}

// cutAt: a kernel with so many of its block's statements.
func cutAt(k tree, count int) tree {
	block := k.kids[len(k.kids)-1]
	block.kids = block.kids[:count]
	k.kids = append(slices.Clone(k.kids[:len(k.kids)-1]), block)
	return k
}

// Promise 5: what stands ahead of the statement with the fault has none, and
// what stands behind it makes no other one of it.
func TestPromise5TheFirstFaultIsTold(t *testing.T) {
	t.Parallel()
	c := newChance(88)
	faults := 0
	for n := range 3000 {
		k := c.kernelWithTypes(n%100, 10+n%60)
		l := k.nodes()
		got := typesOrFault(t, l)
		params := len(k.kids) - 1
		if got.Code == 0 || got.At <= params {
			continue
		}
		faults++
		ahead := 0
		for _, kid := range kidsOf(l, params+1) {
			if impl.NodeEnd(l, kid) <= got.At {
				ahead++
			}
		}
		if first := impl.TypeKernel(cutAt(k, ahead).nodes()); first.Code != 0 || len(first.Types) == 0 {
			t.Errorf("%v is %v, but %d statements of it are %v", l, got, ahead, first)
		}
		if first := impl.TypeKernel(cutAt(k, ahead+1).nodes()); !sameTyped(first, got) {
			t.Errorf("%v is %v, but %d statements of it are %v", l, got, ahead+1, first)
		}
	}
	if faults < 1000 {
		t.Errorf("only %d kernels have a fault", faults)
	}
}

// Promise 5: statements put behind a kernel leave its types, or its fault, as
// they are.
func TestPromise5WhatIsAddedBehind(t *testing.T) {
	t.Parallel()
	c := newChance(89)
	for n := range 1000 {
		k := c.kernelWithTypes(n%80, n%3*30)
		was := typesOrFault(t, k.nodes())
		block := len(k.kids) - 1
		more := cutAt(k, len(k.kids[block].kids))
		more.kids[block].kids = append(slices.Clone(k.kids[block].kids), c.statement(1+n%20))
		l := more.nodes()
		if !wantGood(l) {
			continue
		}
		got := typesOrFault(t, l)
		if was.Code != 0 && !sameTyped(got, was) || was.Code == 0 && got.Code == 0 && !slices.Equal(got.Types[:len(was.Types)], was.Types) || was.Code == 0 && got.Code != 0 && got.At < len(was.Types) {
			t.Errorf("%v: %v, and without the last statement %v", l, got, was)
		}
	}
}

// Promise 5: other names, alike where they were alike, have the same types.
func TestPromise5OtherNames(t *testing.T) {
	t.Parallel()
	c := newChance(90)
	for n := range 1000 {
		l := c.kernelWithTypes(n%80, n%3*40).nodes()
		others := slices.Clone(l)
		for i, node := range l {
			switch node.Kind {
			case impl.NName, impl.NLoad, impl.NLet, impl.NSet, impl.NStore, impl.NFor, impl.NKernel, impl.NWholeIn, impl.NFloatIn, impl.NWholeBuf, impl.NFloatBuf:
				others[i].Text = "z" + node.Text
			}
		}
		if got, want := typesOrFault(t, others), typesOrFault(t, l); !sameTyped(got, want) {
			t.Errorf("%v: %v, with other names %v", l, want, got)
		}
	}
}

// Promise 5: a kernel that comes back from its text has the same types.
func TestPromise5TypesComeBack(t *testing.T) {
	t.Parallel()
	c := newChance(91)
	for n := range 1000 {
		l := c.kernelWithTypes(n%80, n%2*60).nodes()
		text, ok := impl.ShowKernel(l)
		if !ok {
			continue
		}
		if got, want := impl.TypeKernel(impl.ReadKernel(text).Nodes), typesOrFault(t, l); !sameTyped(got, want) {
			t.Errorf("%q: %v, want %v", text, got, want)
		}
	}
}

// noTypes: all of chapter 5 at a list that is no good kernel.
func noTypes(t *testing.T, l []impl.Node) {
	t.Helper()
	if got := impl.TypeKernel(l); len(got.Types) > 0 || got.Code != 0 || got.At != 0 {
		t.Errorf("TypeKernel(%v) = %v", l, got)
	}
	if got := impl.NamesOf(l); len(got) > 0 {
		t.Errorf("NamesOf(%v) = %q", l, got)
	}
	if got := impl.LoopsOf(l); got != 0 {
		t.Errorf("LoopsOf(%v) = %d", l, got)
	}
}

// typedAll: a kernel with nodes of every kind and without a fault.
var typedAll = given("let x = 1 ; let y = n + 0.5 ; let p = ! ( x < f ) ; y = min ( x , y ) ; a [ x ] = a [ 0 ] ; b [ tid ( ) ] = - n ; if p || true { x = int ( y ) ; } else { p = false ; } barrier ; for i in x .. size ( ) { let q = i ; for j in 0 .. q { q = j % 2 ; } }")

// Promise 25: lists that are no good kernel have no types, no names and no
// loops.
func TestPromise25NoTypes(t *testing.T) {
	t.Parallel()
	noTypes(t, nil)
	noTypes(t, []impl.Node{})
	l := impl.ReadKernel(typedAll).Nodes
	if got := heldTyped(t, l); got.Code != 0 || len(got.Types) != len(l) {
		t.Errorf("TypeKernel = %v", got)
	}
	for at := range l {
		noTypes(t, l[:at])
		if at > 0 {
			noTypes(t, l[at:])
		}
		noTypes(t, append(slices.Clone(l), l[at:]...))
		for _, n := range wrongInts {
			k := slices.Clone(l)
			k[at].Kids = n
			if n != l[at].Kids {
				noTypes(t, k)
			}
			k[at] = impl.Node{Kind: n, Text: l[at].Text, Kids: l[at].Kids}
			if heldTyped(t, k); n < 1 || n > 20 {
				noTypes(t, k)
			}
		}
		for _, text := range slices.Concat(brokenRunes, notTokens()) {
			k := slices.Clone(l)
			k[at].Text = text
			if text != l[at].Text {
				noTypes(t, k)
			}
		}
	}
}

// Promise 25: too many nodes, too deep ones, and kernels just within these
// limits.
func TestPromise25TypesAtTheLimits(t *testing.T) {
	t.Parallel()
	kernel := func(l []tree) []impl.Node {
		return tree{impl.NKernel, "k", []tree{{impl.NBlock, "", l}}}.nodes()
	}
	for _, n := range []int{0, 1, 247, 248, 249, 250, 1000, 100000} {
		l := kernel(slices.Repeat([]tree{{kind: impl.NBarrier}}, n))
		if n > 248 {
			noTypes(t, l)
		} else if got := impl.TypeKernel(l); got.Code != 0 || !slices.Equal(got.Types, make([]int, n+2)) {
			t.Errorf("%d barriers: %v", n, got)
		}
	}
	one := tree{kind: impl.NWhole, text: "1"}
	long, deep := one, one
	for n := range 140 {
		l := kernel([]tree{{impl.NLet, "x", []tree{long}}})
		if got := impl.TypeKernel(l); len(l) <= 250 && (len(got.Types) != len(l) || got.Types[2] != impl.TWhole) {
			t.Errorf("a sum of %d: %v", n+1, got)
		} else if len(l) > 250 {
			noTypes(t, l)
		}
		l = kernel([]tree{{impl.NLet, "x", []tree{deep}}})
		if got := impl.TypeKernel(l); n <= 9 && len(got.Types) != len(l) {
			t.Errorf("%d signs: %v", n, got)
		} else if n > 9 {
			noTypes(t, l)
		}
		long = tree{impl.NBinary, "+", []tree{long, one}}
		deep = tree{impl.NUnary, "-", []tree{deep}}
	}
	inner := tree{kind: impl.NBlock}
	for n := range 15 {
		l := tree{impl.NKernel, "k", []tree{inner}}.nodes()
		if got := impl.LoopsOf(l); n <= 9 && got != n {
			t.Errorf("%d loops within one another: %d", n, got)
		} else if n > 9 {
			noTypes(t, l)
		}
		inner = tree{impl.NBlock, "", []tree{{impl.NFor, "loop" + string(rune('a'+n)), []tree{one, one, inner}}}}
	}
}

// Promise 25: nodes of any sort.
func TestPromise25TypesOfAnyNodes(t *testing.T) {
	t.Parallel()
	c := newChance(92)
	some := func(n int) int {
		if c.Intn(3) == 0 {
			return wrongInts[c.Intn(len(wrongInts))]
		}
		return c.Intn(n)
	}
	for n := range 3000 {
		l := make([]impl.Node, c.Intn(1+n%300))
		for i := range l {
			l[i] = impl.Node{Kind: some(22), Text: wrongTexts[c.Intn(len(wrongTexts))], Kids: some(4)}
		}
		heldTyped(t, l)
		if len(l) > 1 {
			l[0], l[1] = impl.Node{Kind: impl.NKernel, Text: "k", Kids: 1}, impl.Node{Kind: impl.NBlock, Kids: some(9)}
		}
		heldTyped(t, l)
	}
	for _, kind := range []int{math.MinInt64, math.MaxInt64, -1, 4} {
		if got := impl.TypeName(kind); got != "" {
			t.Errorf("TypeName(%d) = %q", kind, got)
		}
	}
}

// Promise 25: nothing is written into nodes that are given, and types and names
// are new memory.
func TestPromise25NewTypes(t *testing.T) {
	t.Parallel()
	c := newChance(93)
	for n := range 300 {
		l := c.kernelWithTypes(n, n%3*50).nodes()
		apartFrom(t, "TypeKernel", l, func(l []impl.Node) []int { return impl.TypeKernel(l).Types })
		apartFrom(t, "TypeKernel", l, func(l []impl.Node) []int { r := impl.TypeKernel(l); return []int{r.Code, r.At} })
		apartFrom(t, "NamesOf", l, impl.NamesOf)
		apartFrom(t, "LoopsOf", l, func(l []impl.Node) []int { return []int{impl.LoopsOf(l)} })
		for _, name := range impl.NamesOf(l) {
			if slices.ContainsFunc(l, func(node impl.Node) bool { return sharesText(name, node.Text) }) {
				t.Errorf("%q shares the memory of a node's text", name)
			}
		}
	}
}

// Promise 25: a call finds nothing of those ahead of it, and reads nothing
// behind the nodes' length.
func TestPromise25TypesOfOneCallAlone(t *testing.T) {
	t.Parallel()
	first, second := impl.ReadKernel(given("let x = 1 ;")).Nodes, impl.ReadKernel("kernel k ( ) { x = n ; }").Nodes
	for range 3 {
		if got := impl.TypeKernel(first); got.Code != 0 {
			t.Errorf("TypeKernel(%v) = %v", first, got)
		}
		if got := impl.TypeKernel(second); got.Code != impl.TypName || got.At != 3 {
			t.Errorf("TypeKernel(%v) = %v", second, got)
		}
	}
	whole := impl.ReadKernel(typedAll).Nodes
	long := append(slices.Clone(whole), whole...)
	if got := impl.TypeKernel(long[:len(whole)]); !sameTyped(got, impl.TypeKernel(whole)) || got.Code != 0 {
		t.Errorf("TypeKernel = %v", got)
	}
	if impl.LoopsOf(long[:len(whole)]) != 2 || strings.Join(impl.NamesOf(long[:len(whole)]), " ") != "x y p i q j" {
		t.Error("names and loops hang on what lies behind")
	}
}
