package tests

import (
	"math"
	"slices"
	"strings"
	"testing"

	"loop.example/g00053/impl"
)

// Chapter 4 held against the other way of l4_oracle_test.go and
// l4_trees_test.go.

func TestConstantsOfGrammar(t *testing.T) {
	t.Parallel()
	kinds := []int{
		impl.NWhole, impl.NFloat, impl.NBool, impl.NName, impl.NLoad, impl.NUnary, impl.NBinary, impl.NCall, impl.NLet, impl.NSet,
		impl.NStore, impl.NIf, impl.NFor, impl.NBarrier, impl.NBlock, impl.NKernel, impl.NWholeIn, impl.NFloatIn, impl.NWholeBuf, impl.NFloatBuf,
	}
	for i, kind := range kinds {
		if kind != i+1 {
			t.Errorf("kind %d is %d", i+1, kind)
		}
	}
	if impl.MaxNodes != 250 || impl.MaxDeep != 10 || impl.MaxParams != 6 || impl.SynToken != 6 || impl.SynDeep != 7 || impl.SynMany != 8 {
		t.Error("limits or codes")
	}
}

func TestCalls(t *testing.T) {
	t.Parallel()
	if got := impl.Calls(); !slices.Equal(got, wantCalls) || !slices.IsSorted(got) || len(got) != 11 {
		t.Errorf("calls: %q", got)
	}
	for _, name := range wantCalls {
		if got := impl.CallArity(name); got != wantArity[name] {
			t.Errorf("CallArity(%q) = %d", name, got)
		}
		for _, other := range []string{name + " ", " " + name, name + "s", name[1:], strings.ToUpper(name), name + "\x00", name + "(", name + name} {
			if got := impl.CallArity(other); got != -1 {
				t.Errorf("CallArity(%q) = %d", other, got)
			}
		}
	}
	for _, name := range slices.Concat(wantWords, wantSigns, brokenRunes, []string{"", "x", "kernel", "0", "1", "max2"}) {
		if !isCall(name) && impl.CallArity(name) != -1 {
			t.Errorf("CallArity(%q)", name)
		}
	}
}

func TestStrengths(t *testing.T) {
	t.Parallel()
	between := 0
	for _, sign := range slices.Concat(wantSigns, wantWords, pieces, brokenRunes, []string{"", "+ ", " +", "++", "&&&", "<=>", "!!", "+\x00"}) {
		if got := impl.Strength(sign); got != wantStrength[sign] {
			t.Errorf("Strength(%q) = %d", sign, got)
		}
	}
	for _, sign := range impl.Signs() {
		if impl.Strength(sign) > 0 {
			between++
		}
	}
	if between != 18 || between != len(betweenSigns) {
		t.Errorf("%d signs between two", between)
	}
}

func sameParsed(a, b impl.Parsed) bool {
	return a.Code == b.Code && a.At == b.At && slices.Equal(a.Nodes, b.Nodes)
}

func heldParsed(t *testing.T, source string, want impl.Parsed) bool {
	t.Helper()
	got := impl.ReadKernel(source)
	if !sameParsed(got, want) {
		t.Errorf("ReadKernel(%q) = %v, want %v", source, got, want)
	}
	return got.Code == 0
}

func TestReadsKernelsByChance(t *testing.T) {
	t.Parallel()
	c := newChance(61)
	for n := range 1500 {
		k := c.goodKernel(n % 60)
		source := c.spread(textOf(k, c.brackets))
		want := wantParsed(source)
		if want.Code == 0 && !slices.Equal(want.Nodes, k.nodes()) {
			t.Fatalf("%q is read by the rules as %v", source, want.Nodes)
		}
		heldParsed(t, source, want)
	}
}

// allOfIt: the tokens of a kernel with nodes of every kind, each call and each
// sign.
var allOfIt = strings.Fields(`kernel all ( int n , float f , buffer int a , buffer float b ) {
	let i = tid ( ) + local ( ) * group ( ) - size ( ) % 7 ;
	for k in - n .. max ( i , n << 2 ) {
		if ! ( i < n && true ) || a [ k ] != 3 ^ 5 { a [ k + 1 ] = - a [ ( i | 1 ) & 6 ] / ( n - ( k - 1 ) ) ; }
		else { b [ abs ( k ) ] = fma ( 1.5 , float ( k >> 1 ) , sqrt ( f ) ) ; i = int ( f ) ; }
	}
	barrier ;
	if false == ( i <= 2 ) { if f > 0.5 { } } else { i = min ( 1 , - - 2 ) >= 0 ; }
}`)

func TestAllOfItHasEverything(t *testing.T) {
	t.Parallel()
	r := impl.ReadKernel(strings.Join(allOfIt, " "))
	for kind := impl.NWhole; kind <= impl.NFloatBuf; kind++ {
		if !slices.ContainsFunc(r.Nodes, func(n impl.Node) bool { return n.Kind == kind }) {
			t.Errorf("no node of kind %d", kind)
		}
	}
	for _, text := range slices.Concat(wantWords, wantSigns, wantCalls) {
		if text != "bool" && text != ":" && !slices.Contains(allOfIt, text) {
			t.Errorf("no %q", text)
		}
	}
}

// others: one token of each kind, and all words, signs and calls.
var others = slices.Compact(slices.Sorted(slices.Values(slices.Concat(wantWords, wantSigns, wantCalls, []string{"x", "0", "0.5"}))))

// heldEachToken: a kernel with what was made of it at each token, as change
// tells it.
func heldEachToken(t *testing.T, change func(held func(tokens ...string), at int)) {
	t.Helper()
	if r := wantParsed(strings.Join(allOfIt, " ")); r.Code != 0 {
		t.Fatal("the kernel with everything in it is not read by the rules")
	}
	ahead := newChart()
	for at := range len(allOfIt) + 1 {
		change(func(tokens ...string) {
			source := strings.Join(slices.Concat(allOfIt[:at], tokens), " ")
			heldParsed(t, source, ahead.wantParsed(source, at))
		}, at)
		if at < len(allOfIt) {
			ahead, _ = ahead.next(classOf(impl.Token{Kind: kindOfText(allOfIt[at]), Text: allOfIt[at]}))
		}
	}
}

func TestReadsOneTokenLeftOut(t *testing.T) {
	t.Parallel()
	heldEachToken(t, func(held func(...string), at int) {
		if at < len(allOfIt) {
			held(allOfIt[at+1:]...)
		}
	})
}

func TestReadsOneTokenPutIn(t *testing.T) {
	t.Parallel()
	heldEachToken(t, func(held func(...string), at int) {
		for _, other := range others {
			held(append([]string{other}, allOfIt[at:]...)...)
		}
	})
}

func TestReadsOneTokenForAnother(t *testing.T) {
	t.Parallel()
	heldEachToken(t, func(held func(...string), at int) {
		for _, other := range others {
			if at < len(allOfIt) {
				held(append([]string{other}, allOfIt[at+1:]...)...)
			}
		}
	})
}

func TestReadsOneTokenForItsNeighbour(t *testing.T) {
	t.Parallel()
	heldEachToken(t, func(held func(...string), at int) {
		if at+1 < len(allOfIt) {
			held(slices.Concat([]string{allOfIt[at+1], allOfIt[at]}, allOfIt[at+2:])...)
		}
	})
}

// Cut off behind each token, with and without what may stand behind it.
func TestReadsWhatIsCutOff(t *testing.T) {
	t.Parallel()
	heldEachToken(t, func(held func(...string), at int) {
		held()
		for _, behind := range []string{"", "\n", "// a", " \t//\n "} {
			source := strings.Join(allOfIt[:at], " ") + behind
			if got := impl.ReadKernel(source); at < len(allOfIt) && (got.Code != impl.SynToken || got.At != len(source) || len(got.Nodes) > 0) {
				t.Errorf("ReadKernel(%q) = %v", source, got)
			}
		}
	})
}

// Several faults at once, and tokens by chance where they may stand.
func TestReadsTokensByChance(t *testing.T) {
	t.Parallel()
	c := newChance(62)
	read := 0
	for n := range 1500 {
		l := textOf(c.goodKernel(n%25), c.brackets)
		for range c.Intn(3) {
			at := c.Intn(len(l))
			l = slices.Replace(l, at, at+c.Intn(2), others[c.Intn(len(others))])
		}
		source := c.spread(l)
		if heldParsed(t, source, wantParsed(source)) {
			read++
		}
	}
	if read < 400 {
		t.Errorf("only %d were read", read)
	}
}

// standingTokens: tokens of which each can stand where it does, by chance, up
// to a kernel or a limit.
func (c chance) standingTokens(limit int) []string {
	var l []string
	at := newChart()
	for len(l) < limit && !at.whole() {
		other := others[c.Intn(len(others))]
		if c.Intn(3) == 0 {
			other = [...]string{"-", "!", "(", "{", "[", "x", "if", "tid"}[c.Intn(8)]
		}
		if next, ok := at.next(classOf(impl.Token{Kind: kindOfText(other), Text: other})); ok {
			l, at = append(l, other), next
		}
	}
	return l
}

// Whatever can stand is read, up to the limit of what is open.
func TestReadsStandingTokens(t *testing.T) {
	t.Parallel()
	c := newChance(63)
	deep := 0
	for n := range 400 {
		source := strings.Join(c.standingTokens(n%120), " ")
		want := wantParsed(source)
		if want.Code == impl.SynDeep {
			deep++
		}
		heldParsed(t, source, want)
	}
	if deep < 50 {
		t.Errorf("only %d were too deep", deep)
	}
}

// heldGood: which nodes are good, and what is shown of them.
func heldGood(t *testing.T, l []impl.Node) bool {
	t.Helper()
	good := wantGood(l)
	if got := impl.GoodKernel(l); got != good {
		t.Errorf("GoodKernel(%v) = %v", l, got)
	}
	text, ok := impl.ShowKernel(l)
	if !good && (ok || text != "") {
		t.Errorf("ShowKernel(%v) = %q, %v", l, text, ok)
	}
	return good
}

func TestGoodKernelsByChance(t *testing.T) {
	t.Parallel()
	c := newChance(64)
	good, deep := 0, 0
	for n := range 4000 {
		k := c.anyKernel(n % 320)
		if heldGood(t, k.nodes()) {
			good++
		} else if deepest(k, 0) > 10 {
			deep++
		}
	}
	if good < 500 || deep < 500 {
		t.Errorf("%d good ones, %d too deep", good, deep)
	}
}

// wrongTexts: what Texts are changed into.
var wrongTexts = slices.Concat(wantWords, wantSigns, wantCalls, brokenRunes[:3], []string{"", " ", "x", "x y", "x ", "1", "01", "1.5", "1.", "2147483647", "2147483648", "-1", "- -", "1 + 1", "x [", "é", "aaaaaaaaaaaaaaaaaaaaa", "( x )", "x ;", "// x", "x\n"})

var wrongInts = []int{math.MinInt64, math.MinInt64 + 1, -1 << 32, -2, -1, 0, 1, 2, 3, 4, 7, 8, 250, 251, 1 << 32, 1<<32 + 1, math.MaxInt64 - 1, math.MaxInt64}

// heldChanges: a kernel with each node changed in each of its fields, left out,
// twice there, or for its neighbour.
func heldChanges(t *testing.T, l []impl.Node) {
	t.Helper()
	for i, node := range l {
		k := slices.Clone(l)
		for kind := range 22 {
			k[i] = impl.Node{Kind: kind, Text: node.Text, Kids: node.Kids}
			heldGood(t, k)
			k[i].Text = ""
			heldGood(t, k)
		}
		for _, kind := range wrongInts {
			k[i] = impl.Node{Kind: kind, Text: node.Text, Kids: node.Kids}
			heldGood(t, k)
		}
		for _, text := range wrongTexts {
			k[i] = impl.Node{Kind: node.Kind, Text: text, Kids: node.Kids}
			heldGood(t, k)
		}
		for _, kids := range append(wrongInts, node.Kids-1, node.Kids+1) {
			k[i] = impl.Node{Kind: node.Kind, Text: node.Text, Kids: kids}
			heldGood(t, k)
		}
		heldGood(t, slices.Delete(slices.Clone(l), i, i+1))
		heldGood(t, slices.Insert(slices.Clone(l), i, node))
		heldGood(t, l[:i])
		heldGood(t, l[i:])
		if i > 0 {
			k := slices.Clone(l)
			k[i-1], k[i] = k[i], k[i-1]
			heldGood(t, k)
		}
	}
}

func TestGoodKernelsWithOneChange(t *testing.T) {
	t.Parallel()
	heldChanges(t, impl.ReadKernel(strings.Join(allOfIt, " ")).Nodes)
	heldChanges(t, impl.ReadKernel("kernel k ( ) { }").Nodes)
	heldChanges(t, impl.ReadKernel("kernel k ( int a , float b , buffer int c , buffer float d , int e , int f ) { barrier ; }").Nodes)
}

// Any kind of node above any other: each node of a kernel replaced by each of
// its trees.
func TestGoodKernelsWithTreesForOthers(t *testing.T) {
	t.Parallel()
	l := impl.ReadKernel(strings.Join(allOfIt, " ")).Nodes
	good := 0
	for i := range l {
		for j := range l {
			k := slices.Concat(l[:i], l[j:impl.NodeEnd(l, j)], l[impl.NodeEnd(l, i):])
			if heldGood(t, k) {
				good++
			}
		}
	}
	if good < 1000 {
		t.Errorf("only %d good ones", good)
	}
}

func TestGoodKernelsWithNodesByChance(t *testing.T) {
	t.Parallel()
	c := newChance(65)
	for range 20000 {
		l := make([]impl.Node, c.Intn(8))
		for i := range l {
			l[i] = impl.Node{Kind: c.Intn(22), Text: wrongTexts[c.Intn(len(wrongTexts))], Kids: c.Intn(4)}
			if c.Intn(2) == 0 {
				l[i].Text = ""
			}
		}
		if len(l) > 0 && c.Intn(4) > 0 {
			l[0] = impl.Node{Kind: impl.NKernel, Text: "k", Kids: 1 + c.Intn(3)}
		}
		heldGood(t, l)
	}
}

func heldShown(t *testing.T, k tree) {
	t.Helper()
	want := wantShown(k)
	fits := len(want) <= 2000 && len(strings.Fields(want)) <= 400
	if text, ok := impl.ShowKernel(k.nodes()); ok != fits || ok && text != want || !ok && text != "" {
		t.Errorf("ShowKernel(%v) = %q, %v, want %q", k.nodes(), text, ok, want)
	}
}

func TestShowsKernelsByChance(t *testing.T) {
	t.Parallel()
	c := newChance(66)
	for n := range 1500 {
		heldShown(t, c.goodKernel(n%50))
	}
	for range 20 {
		heldShown(t, c.goodKernel(240))
	}
}

// setTo: a kernel that sets x to an expression.
func setTo(e tree) tree {
	return tree{impl.NKernel, "k", []tree{{impl.NBlock, "", []tree{{impl.NSet, "x", []tree{e}}}}}}
}

// Each sign between two within each other one, on both sides, with signs ahead
// around it and within.
func TestShowsEachTwoSigns(t *testing.T) {
	t.Parallel()
	a, b, d := exprOf([]string{"a"}), exprOf([]string{"-", "b"}), exprOf([]string{"c", "[", "1", "]"})
	for _, outer := range betweenSigns {
		for _, inner := range betweenSigns {
			within := tree{impl.NBinary, inner, []tree{a, b}}
			heldShown(t, setTo(tree{impl.NBinary, outer, []tree{within, d}}))
			heldShown(t, setTo(tree{impl.NBinary, outer, []tree{d, within}}))
			heldShown(t, setTo(tree{impl.NBinary, outer, []tree{within, within}}))
			for _, ahead := range []string{"-", "!"} {
				sign := tree{impl.NUnary, ahead, []tree{within}}
				heldShown(t, setTo(sign))
				heldShown(t, setTo(tree{impl.NBinary, outer, []tree{sign, d}}))
				heldShown(t, setTo(tree{impl.NBinary, outer, []tree{d, sign}}))
				heldShown(t, setTo(tree{impl.NUnary, ahead, []tree{{impl.NBinary, outer, []tree{sign, within}}}}))
			}
		}
	}
}

func heldEnd(t *testing.T, l []impl.Node, at int) {
	t.Helper()
	want := -1
	if _, end, ok := treeAt(l, at); ok {
		want = end
	}
	if got := impl.NodeEnd(l, at); got != want {
		t.Errorf("NodeEnd(%v, %d) = %d, want %d", l, at, got, want)
	}
}

func TestNodeEnds(t *testing.T) {
	t.Parallel()
	c := newChance(67)
	for n := range 300 {
		l := c.anyKernel(n).nodes()
		for at := -2; at < len(l)+3; at++ {
			heldEnd(t, l, at)
		}
		for range 20 {
			k := slices.Clone(l)
			k[c.Intn(len(k))].Kids = wrongInts[c.Intn(len(wrongInts))]
			heldEnd(t, k, c.Intn(len(k)))
		}
	}
	for range 20000 {
		l := make([]impl.Node, c.Intn(10))
		for i := range l {
			l[i].Kids = c.Intn(5) - 1
			if c.Intn(2) > 0 {
				l[i].Kids = 0
			}
		}
		heldEnd(t, l, c.Intn(12)-1)
	}
}
