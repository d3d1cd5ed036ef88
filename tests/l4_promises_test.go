package tests

import (
	"math"
	"slices"
	"strings"
	"testing"

	"loop.example/g00053/impl"
)

// kernelComesBack: a good kernel whose text fits comes back from it.
func kernelComesBack(t *testing.T, l []impl.Node) (string, bool) {
	t.Helper()
	if !impl.GoodKernel(l) {
		t.Errorf("GoodKernel(%v) is false", l)
	}
	text, ok := impl.ShowKernel(l)
	if !ok {
		return "", false
	}
	if r := impl.ReadKernel(text); r.Code != 0 || !slices.Equal(r.Nodes, l) {
		t.Errorf("%v come back from %q as %v", l, text, r)
	}
	return text, true
}

// Promise 4: kernels with nodes of every kind come back from their text.
func TestPromise4KernelsComeBack(t *testing.T) {
	t.Parallel()
	c := newChance(71)
	kinds := map[int]int{}
	for n := range 3000 {
		k := c.goodKernel(n % 90)
		want := wantShown(k)
		fits := len(want) <= impl.MaxSource && len(strings.Fields(want)) <= impl.MaxTokens
		if _, ok := kernelComesBack(t, k.nodes()); ok != fits {
			t.Errorf("%q is shown: %v", want, ok)
		}
		for _, node := range k.nodes() {
			kinds[node.Kind]++
		}
	}
	for kind := impl.NWhole; kind <= impl.NFloatBuf; kind++ {
		if kinds[kind] < 100 {
			t.Errorf("%d nodes of kind %d", kinds[kind], kind)
		}
	}
}

// sourceComesBack: a source that is read is a good kernel and has a text, where
// that is not too long, that is read as the same.
func sourceComesBack(t *testing.T, source string) bool {
	t.Helper()
	r := impl.ReadKernel(source)
	if r.Code != 0 {
		return false
	}
	text, ok := kernelComesBack(t, r.Nodes)
	tokens := impl.ReadTokens(source).Tokens
	if !ok && len(textsOf(tokens)) <= impl.MaxSource {
		t.Errorf("%q has no text", source)
	}
	if ok && (len(text) > len(textsOf(tokens)) || strings.Count(text, "(") > strings.Count(textsOf(tokens), "(")) {
		t.Errorf("%q has the longer text %q", source, text)
	}
	if again := impl.ReadKernel(text); ok && again.Code == 0 {
		if twice, ok := impl.ShowKernel(again.Nodes); !ok || twice != text {
			t.Errorf("%q is shown as %q", text, twice)
		}
	}
	return true
}

// Promise 4: sources that are read have a text.
func TestPromise4SourcesHaveAText(t *testing.T) {
	t.Parallel()
	c := newChance(72)
	if !sourceComesBack(t, strings.Join(allOfIt, " ")) || !sourceComesBack(t, strings.Join(allOfIt, "\n")) {
		t.Error("the kernel with everything in it is not read")
	}
	read := 0
	for n := range 3000 {
		l := textOf(c.goodKernel(n%60), c.brackets)
		if c.Intn(2) == 0 {
			l[c.Intn(len(l))] = others[c.Intn(len(others))]
		}
		if sourceComesBack(t, c.spread(l)) {
			read++
		}
	}
	for i := range allOfIt {
		for _, other := range others {
			if sourceComesBack(t, strings.Join(slices.Concat(allOfIt[:i], []string{other}, allOfIt[i:]), " ")) {
				read++
			}
			if sourceComesBack(t, strings.Join(slices.Concat(allOfIt[:i], []string{other}, allOfIt[i+1:]), " ")) {
				read++
			}
		}
	}
	if read < 2000 {
		t.Errorf("only %d sources were read", read)
	}
}

// Promise 4: a source without blanks may be read though its text is too long,
// and one with many brackets has a text with few.
func TestPromise4TextsThatAreTooLong(t *testing.T) {
	t.Parallel()
	name := strings.Repeat("a", 15)
	for n := 100; n < 124; n++ {
		source := "kernel k(){x=" + name + strings.Repeat("+"+name, n-1) + ";}"
		r := impl.ReadKernel(source)
		text, ok := impl.ShowKernel(r.Nodes)
		length := len("kernel k ( ) { x =  ; }") + n*len(name) + (n-1)*len(" + ")
		if r.Code != 0 || len(r.Nodes) != 2*n+2 || !impl.GoodKernel(r.Nodes) {
			t.Errorf("%d names: %d, %d nodes", n, r.Code, len(r.Nodes))
		}
		if ok != (length <= 2000) || ok && len(text) != length || !ok && text != "" {
			t.Errorf("%d names: %d bytes, %v, want %d", n, len(text), ok, length)
		}
	}
	source := value(strings.Repeat("(((1)))+", 40) + "1")
	if r := impl.ReadKernel(source); r.Code != 0 || !sourceComesBack(t, source) {
		t.Errorf("brackets: %v", r)
	}
}

// Promise 4: without any one pair of the brackets that are told another tree is
// read, or none.
func TestPromise4EachPairIsNeeded(t *testing.T) {
	t.Parallel()
	c := newChance(73)
	pairs := 0
	for n := range 1500 {
		nodes := c.goodKernel(n % 60).nodes()
		text, ok := impl.ShowKernel(nodes)
		if !ok {
			continue
		}
		l := strings.Fields(text)
		for at, bracket := range l {
			if bracket != "(" || at == 2 || isCall(l[at-1]) {
				continue
			}
			pairs++
			less := strings.Join(withoutPair(l, at), " ")
			if r := impl.ReadKernel(less); r.Code == 0 && slices.Equal(r.Nodes, nodes) {
				t.Errorf("%q is read as %q", less, text)
			}
		}
	}
	if pairs < 1000 {
		t.Errorf("only %d pairs", pairs)
	}
}

// Promise 25: nodes with Kinds, Texts and Kids of any sort, few of them and
// many.
func TestPromise25AnyNodes(t *testing.T) {
	t.Parallel()
	c := newChance(74)
	texts := slices.Concat(wrongTexts, brokenRunes, []string{strings.Repeat("x", 5000), "\x00", "k\x00"})
	some := func(n int) int {
		if c.Intn(3) == 0 {
			return wrongInts[c.Intn(len(wrongInts))]
		}
		return c.Intn(n)
	}
	for n := range 4000 {
		l := make([]impl.Node, c.Intn(1+n%400))
		for i := range l {
			l[i] = impl.Node{Kind: some(22), Text: texts[c.Intn(len(texts))], Kids: some(4)}
		}
		if len(l) > 0 {
			l[0] = impl.Node{Kind: impl.NKernel, Text: "k", Kids: some(4)}
		}
		heldGood(t, l)
		heldEnd(t, l, some(len(l)+2))
	}
	for _, at := range wrongInts {
		if impl.NodeEnd(nil, at) != -1 || impl.NodeEnd([]impl.Node{}, at) != -1 {
			t.Errorf("NodeEnd of no nodes at %d", at)
		}
	}
}

// Promise 25: a Text that is no UTF-8, or no token's, at each node.
func TestPromise25BrokenTexts(t *testing.T) {
	t.Parallel()
	l := impl.ReadKernel(strings.Join(allOfIt, " ")).Nodes
	for i := range l {
		for _, text := range slices.Concat(brokenRunes, notTokens()) {
			k := slices.Clone(l)
			k[i].Text = text
			if text == l[i].Text {
				continue
			}
			if impl.GoodKernel(k) {
				t.Errorf("a kernel with the text %q at node %d is good", text, i)
			}
			if shown, ok := impl.ShowKernel(k); ok || shown != "" {
				t.Errorf("a kernel with the text %q at node %d is shown as %q", text, i, shown)
			}
		}
	}
}

// Promise 25: more nodes than there may be, beneath one another or side by
// side.
func TestPromise25ManyNodes(t *testing.T) {
	t.Parallel()
	for _, n := range []int{251, 1000, 200000} {
		for _, node := range []impl.Node{{Kind: impl.NUnary, Text: "-", Kids: 1}, {Kind: impl.NBinary, Text: "+", Kids: 2}, {Kind: impl.NBlock, Kids: 1}, {Kind: impl.NBarrier}, {Kind: impl.NWholeIn, Text: "a"}, {Kind: math.MaxInt64, Kids: math.MaxInt64}} {
			l := append([]impl.Node{{Kind: impl.NKernel, Text: "k", Kids: 1}, {Kind: impl.NBlock, Kids: n}}, slices.Repeat([]impl.Node{node}, n)...)
			if text, ok := impl.ShowKernel(l); impl.GoodKernel(l) || ok || text != "" {
				t.Errorf("%d nodes of kind %d: %q, %v", n, node.Kind, text, ok)
			}
		}
	}
}

// Promise 25: sources of any bytes and any length end in nodes or in a fault.
func TestPromise25AnySources(t *testing.T) {
	t.Parallel()
	c := newChance(75)
	sources := slices.Concat(brokenRunes, pieces, []string{"", strings.Repeat("(", 100000), strings.Repeat("kernel k ( ) { ", 200), strings.Repeat("-", 3000)})
	for n := range 3000 {
		b := []byte(strings.Join(allOfIt, " "))
		for range n % 20 {
			b[c.Intn(len(b))] = byte(c.Uint32())
		}
		sources = append(sources, string(b), string(b[:c.Intn(len(b))]), c.source(n%30))
	}
	for _, source := range sources {
		r := impl.ReadKernel(source)
		lexed := impl.ReadTokens(source)
		switch {
		case lexed.Code != 0 && (r.Code != lexed.Code || r.At != lexed.At):
			t.Errorf("ReadKernel(%q): %v, the tokens have %d at %d", source, r, lexed.Code, lexed.At)
		case lexed.Code == 0 && r.Code != 0 && (r.Code < impl.SynToken || r.Code > impl.SynMany || r.At < 0 || r.At > len(source)):
			t.Errorf("ReadKernel(%q): %v", source, r)
		case (r.Code != 0) != (len(r.Nodes) == 0) || r.Code == 0 && r.At != 0:
			t.Errorf("ReadKernel(%q): %v", source, r)
		}
	}
}

// Promise 25: nothing is written into nodes that are given, and what is
// answered is new memory.
func TestPromise25NewNodes(t *testing.T) {
	t.Parallel()
	c := newChance(76)
	for n := range 200 {
		l := c.anyKernel(n).nodes()
		if n%3 == 0 {
			l[c.Intn(len(l))].Kids = wrongInts[c.Intn(len(wrongInts))]
		}
		apartFrom(t, "GoodKernel", l, func(l []impl.Node) []bool { return []bool{impl.GoodKernel(l)} })
		apartFrom(t, "ShowKernel", l, func(l []impl.Node) []byte { text, _ := impl.ShowKernel(l); return []byte(text) })
		apartFrom(t, "NodeEnd", l, func(l []impl.Node) []int { return []int{impl.NodeEnd(l, n/2)} })
		source := c.spread(textOf(c.goodKernel(n%50), fewest))
		apartFrom(t, "ReadKernel", []byte(source), func(b []byte) []impl.Node { return impl.ReadKernel(string(b)).Nodes })
		for _, node := range impl.ReadKernel(source).Nodes {
			if sharesText(node.Text, source) {
				t.Errorf("%q is a piece of its source", node.Text)
			}
		}
		text, _ := impl.ShowKernel(l)
		for _, node := range l {
			if sharesText(text, node.Text) {
				t.Errorf("%q shares the memory of %q", text, node.Text)
			}
		}
	}
}

// Promise 25: what lies behind the nodes' length is not read.
func TestPromise25BehindNodes(t *testing.T) {
	t.Parallel()
	whole := impl.ReadKernel(strings.Join(allOfIt, " ")).Nodes
	for n := range whole {
		if impl.GoodKernel(whole[:n]) || impl.NodeEnd(whole[:n], 0) != -1 {
			t.Errorf("%d nodes of %d are a kernel", n, len(whole))
		}
	}
	long := append(slices.Clone(whole), impl.Node{Kind: impl.NBarrier})
	if !impl.GoodKernel(long[:len(whole)]) || impl.NodeEnd(long[:len(whole)], 0) != len(whole) || impl.GoodKernel(long) {
		t.Error("what lies behind is read")
	}
}

// Promise 25: what one call of Calls answers is its own.
func TestPromise25CallsAreNew(t *testing.T) {
	t.Parallel()
	first, second := impl.Calls(), impl.Calls()
	for i := range first[:cap(first)] {
		first[:cap(first)][i] = "x"
	}
	if !slices.Equal(second, wantCalls) || !slices.Equal(impl.Calls(), wantCalls) || impl.CallArity("abs") != 1 || impl.CallArity("x") != -1 {
		t.Error("calls are changed by writing into another one's answer")
	}
	heldRead(t, value("abs ( x )"))
}
