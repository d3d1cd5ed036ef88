package tests

import (
	"slices"
	"strings"
	"testing"

	"loop.example/g00053/impl"
)

// chainHolds: each link of a chain is something on which the one ahead leans, the
// last one alone is `local` or `tid`, and nothing on which a link leans is nearer
// to them.
func chainHolds(t *testing.T, l []impl.Node, why impl.Why) {
	t.Helper()
	ahead := why.Name
	for i, link := range why.By {
		isWord := link == "local" || link == "tid"
		uses := impl.UsesOf(l, ahead)
		if !slices.Contains(uses, link) || isWord != (i == len(why.By)-1) {
			t.Errorf("%q of %v: link %d", why, l, i)
		}
		for _, use := range uses {
			other, ok := impl.WhyVaries(l, use)
			left := len(why.By) - i - 1
			if ok && (len(other.By) < left || len(other.By) == left && use < link) {
				t.Errorf("%q of %v: over %q it is shorter, or ahead", why, l, use)
			}
		}
		ahead = link
	}
}

// Each name that varies has a chain, each other one leans on none that varies.
func TestChainsHold(t *testing.T) {
	t.Parallel()
	c := newChance(140)
	for n := range 200 {
		l := c.tangled(1+n%len(linkNames), 10+n%50)
		varying := impl.VaryingNames(l)
		for _, name := range impl.NamesOf(l) {
			why, ok := impl.WhyVaries(l, name)
			if ok != slices.Contains(varying, name) {
				t.Errorf("%q of %v: %q, but %q vary", name, l, why, varying)
			}
			if ok {
				chainHolds(t, l, why)
				continue
			}
			for _, use := range impl.UsesOf(l, name) {
				if use == "local" || use == "tid" || slices.Contains(varying, use) {
					t.Errorf("%q of %v leans on %q", name, l, use)
				}
			}
		}
	}
}

// Statements that come behind take nothing away on which a name leans.
func TestStatementsBehindTakeNothingAway(t *testing.T) {
	t.Parallel()
	c := newChance(141)
	for n := range 100 {
		l := c.tangled(1+n%len(linkNames), 5+n%50)
		k, _, _ := treeAt(l, 0)
		part := cutAt(k, c.Intn(len(k.kids[1].kids))).nodes()
		for _, name := range impl.NamesOf(part) {
			uses := impl.UsesOf(l, name)
			for _, use := range impl.UsesOf(part, name) {
				if !slices.Contains(uses, use) {
					t.Errorf("%q of %v leans no more on %q", name, l, use)
				}
			}
		}
		for _, name := range impl.VaryingNames(part) {
			if !slices.Contains(impl.VaryingNames(l), name) {
				t.Errorf("%q of %v varies no more", name, l)
			}
		}
	}
}

// Promise 25: lists that are no kernel with types.
func TestPromise25NothingVaries(t *testing.T) {
	t.Parallel()
	noneVary(t, nil)
	noneVary(t, []impl.Node{})
	l := impl.ReadKernel(given("let x = tid ( ) ; let y = x ; if y == local ( ) { x = a [ y ] ; } else { for i in x .. y { y = i ; } }")).Nodes
	if got := impl.VaryingNames(l); !slices.Equal(got, []string{"i", "x", "y"}) {
		t.Errorf("VaryingNames(%v) = %q", l, got)
	}
	for at := range l {
		noneVary(t, l[:at])
		if at > 0 {
			noneVary(t, l[at:])
		}
		noneVary(t, append(slices.Clone(l), l[at:]...))
		for _, n := range wrongInts {
			k := slices.Clone(l)
			k[at].Kids = n
			if n != l[at].Kids {
				noneVary(t, k)
			}
			k[at] = impl.Node{Kind: n, Text: l[at].Text, Kids: l[at].Kids}
			heldVary(t, k, "x", "y", "i", "tid", "")
		}
		for _, text := range wrongTexts {
			k := slices.Clone(l)
			k[at].Text = text
			heldVary(t, k, "x", "y", "i", text)
		}
	}
	for _, n := range []int{251, 100000} {
		noneVary(t, slices.Repeat(nodesOf("9 x 1, 8 tid 0"), n))
		noneVary(t, slices.Repeat(nodesOf("16 k 1"), n))
		noneVary(t, slices.Repeat(nodesOf("13 i 3"), n))
	}
}

// Promise 25: kernels with a fault of each sort, wherever it is.
func TestPromise25NothingVariesBesideAFault(t *testing.T) {
	t.Parallel()
	for _, fault := range faultyStatements {
		for _, form := range []string{"let x = tid ( ) ; # ", "# let x = tid ( ) ;", "for i in 0 .. tid ( ) { let x = i ; # }", "if tid ( ) == 0 { # } let x = local ( ) ;"} {
			noneVary(t, impl.ReadKernel(given(strings.Replace(form, "#", fault.text, 1))).Nodes)
		}
	}
	noneVary(t, impl.ReadKernel("kernel k ( int n , int n ) { let x = tid ( ) ; }").Nodes)
	noneVary(t, nodesOf("16 k 1, 15 1, 9 x 1, 8 tid 0, 14 0"))
	noneVary(t, nodesOf("9 x 1, 8 tid 0"))
	noneVary(t, nodesOf("15 1, 9 x 1, 8 tid 0"))
}

// Promise 25: nodes of any sort, and names of any bytes.
func TestPromise25VaryingOfAnyNodes(t *testing.T) {
	t.Parallel()
	c := newChance(142)
	some := func(n int) int {
		if c.Intn(3) == 0 {
			return wrongInts[c.Intn(len(wrongInts))]
		}
		return c.Intn(n)
	}
	for n := range 1000 {
		l := make([]impl.Node, c.Intn(1+n%300))
		for i := range l {
			l[i] = impl.Node{Kind: some(22), Text: wrongTexts[c.Intn(len(wrongTexts))], Kids: some(4)}
		}
		name := wrongTexts[c.Intn(len(wrongTexts))]
		heldVary(t, l, name, string(c.bytes(c.Intn(30))))
		if len(l) > 1 {
			l[0], l[1] = impl.Node{Kind: impl.NKernel, Text: "k", Kids: 1}, impl.Node{Kind: impl.NBlock, Kids: some(9)}
		}
		heldVary(t, l, name)
	}
	l := impl.ReadKernel(given("let x = tid ( ) ; let größe = x ;")).Nodes
	for _, name := range slices.Concat(wrongTexts, brokenRunes, wholeRunes, notTokens(), []string{"x\x00", "grö", "größe ", strings.Repeat("x", 1<<20)}) {
		if name != "x" {
			heldUses(t, l, name, nil)
			heldWhy(t, l, name, nil)
		}
	}
}

// byOf: the links of a chain, for short.
func byOf(l []impl.Node, name string) []string {
	why, _ := impl.WhyVaries(l, name)
	return why.By
}

// Promise 25: nodes and names are not changed, and no answer shares their memory,
// nor that of another answer.
func TestPromise25NewNamesThatVary(t *testing.T) {
	t.Parallel()
	c := newChance(143)
	for n := range 150 {
		l := newTexts(c.tangled(1+n%len(linkNames), 5+n%30))
		given := strings.Clone(impl.NamesOf(l)[0])
		apartFrom(t, "VaryingNames", l, impl.VaryingNames)
		apartFrom(t, "UsesOf", l, func(l []impl.Node) []string { return impl.UsesOf(l, given) })
		apartFrom(t, "WhyVaries", l, func(l []impl.Node) []string { return byOf(l, given) })
		why, _ := impl.WhyVaries(l, given)
		for _, text := range slices.Concat(impl.VaryingNames(l), impl.UsesOf(l, given), why.By, []string{why.Name}) {
			if sharesText(text, given) || slices.ContainsFunc(l, func(node impl.Node) bool { return sharesText(text, node.Text) }) {
				t.Errorf("%q shares the memory of a text that was given", text)
			}
		}
	}
}

// Promise 25: what is answered is the same at every call, whatever was asked
// between, and wherever the texts lie.
func TestPromise25VaryingAgain(t *testing.T) {
	t.Parallel()
	c := newChance(144)
	for n := range 100 {
		l := c.tangled(1+n%len(linkNames), 5+n%30)
		names := impl.NamesOf(l)
		varying := impl.VaryingNames(l)
		for range 5 {
			other := c.tangled(3, 4)
			impl.VaryingNames(other)
			again := newTexts(l)
			if got := impl.VaryingNames(again); !slices.Equal(got, varying) {
				t.Errorf("VaryingNames(%v) = %q, and %q again", l, varying, got)
			}
			name := names[c.Intn(len(names))]
			impl.WhyVaries(other, name)
			impl.UsesOf(other, name)
			if !slices.Equal(byOf(l, name), byOf(again, strings.Clone(name))) || !slices.Equal(impl.UsesOf(l, name), impl.UsesOf(again, strings.Clone(name))) {
				t.Errorf("%q of %v is another one again", name, l)
			}
		}
	}
}

// Promise 25: what lies behind the length of a list is not looked at.
func TestPromise25VaryingBehindNodes(t *testing.T) {
	t.Parallel()
	l := impl.ReadKernel(given("let x = 1 ; let y = x ; if n == 0 { y = 2 ; }")).Nodes
	long := append(slices.Clone(l), nodesOf("10 y 1, 8 tid 0")...)
	heldVary(t, long[:len(l)])
	if got := impl.VaryingNames(long[:len(l)]); len(got) > 0 {
		t.Errorf("%q vary", got)
	}
	heldUses(t, long[:len(l)], "y", []string{"x"})
	noneVary(t, long)
}
