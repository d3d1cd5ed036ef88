package tests

import (
	"slices"
	"testing"

	"loop.example/g00053/impl"
)

// heldUses: on what a name leans.
func heldUses(t *testing.T, l []impl.Node, name string, want []string) {
	t.Helper()
	if got := impl.UsesOf(l, name); !slices.Equal(got, want) {
		t.Errorf("UsesOf(%v, %q) = %q, want %q", l, name, got, want)
	}
}

// heldWhy: the chain of a name; none where it does not vary.
func heldWhy(t *testing.T, l []impl.Node, name string, want []string) {
	t.Helper()
	got, ok := impl.WhyVaries(l, name)
	told := ""
	if len(want) > 0 {
		told = name
	}
	if ok != (len(want) > 0) || got.Name != told || !slices.Equal(got.By, want) {
		t.Errorf("WhyVaries(%v, %q) = %q, %v, want %q", l, name, got, ok, want)
	}
}

// heldVary: all of chapter 8 at a list of nodes, and at names that are the
// kernel's and ones that are not.
func heldVary(t *testing.T, l []impl.Node, others ...string) web {
	t.Helper()
	w := webOf(l)
	want, whys := w.wantVarying(), w.wantWhys()
	if got := impl.VaryingNames(l); !slices.Equal(got, want) {
		t.Errorf("VaryingNames(%v) = %q, want %q", l, got, want)
	}
	for _, name := range slices.Concat(w.names(), others) {
		heldUses(t, l, name, w[name])
		heldWhy(t, l, name, whys[name])
	}
	return w
}

// notNames: texts that are no name of any kernel's NLet or NFor.
var notNames = []string{"", "tid", "local", "group", "size", "let", "nil", " a", "a ", "a\x00", "0", "buf", "\xff", "é\xc3"}

func TestVaryingOfAnyKernels(t *testing.T) {
	t.Parallel()
	c := newChance(136)
	varying, same := 0, 0
	for n := range 600 {
		l := c.quiet(c.kernelWithTypes(n%200, 0).nodes(), 1+n%9)
		w := heldVary(t, l, notNames[n%len(notNames)])
		varying += len(w.wantVarying())
		same += len(w) - len(w.wantVarying())
	}
	if varying < 500 || same < 500 {
		t.Errorf("%d names vary, %d do not", varying, same)
	}
}

func TestVaryingOfTangledKernels(t *testing.T) {
	t.Parallel()
	c := newChance(137)
	long := map[int]int{}
	for n := range 1000 {
		l := c.tangled(1+n%len(linkNames), 20+n%60)
		w := heldVary(t, l, notNames[n%len(notNames)])
		for _, chain := range w.wantWhys() {
			long[len(chain)]++
		}
	}
	for links := 1; links <= 5; links++ {
		if long[links] < 10 {
			t.Errorf("only %d chains have %d links", long[links], links)
		}
	}
}

// sumOf: the sum of words, names and calls.
func sumOf(words []string) tree {
	last := tree{kind: impl.NName, text: words[len(words)-1]}
	if isCall(last.text) {
		last.kind = impl.NCall
	}
	if len(words) == 1 {
		return last
	}
	return tree{impl.NBinary, "+", []tree{sumOf(words[:len(words)-1]), last}}
}

// Of many chains as short the first one: names in layers, each of which leans on
// some of the layer ahead.
func TestChainsAsShortInLayers(t *testing.T) {
	t.Parallel()
	c := newChance(139)
	for range 400 {
		names := c.Perm(len(linkNames))
		layer := []string{"tid", "local"}
		body := tree{kind: impl.NBlock}
		for range 5 {
			var next []string
			for range 3 {
				var on []string
				for _, i := range c.Perm(len(layer))[:1+c.Intn(len(layer))] {
					on = append(on, layer[i])
				}
				name := linkNames[names[0]]
				names = names[1:]
				body.kids = append(body.kids, tree{impl.NLet, name, []tree{sumOf(on)}})
				next = append(next, name)
			}
			layer = next
		}
		l := tree{impl.NKernel, "k", []tree{body}}.nodes()
		for _, name := range layer {
			if why, _ := impl.WhyVaries(l, name); len(why.By) != 5 {
				t.Errorf("WhyVaries(%v, %q) = %q", l, name, why)
			}
		}
		heldVary(t, l)
	}
}

// Kernels with a fault, or with one change in a node.
func TestVaryingBesideFaults(t *testing.T) {
	t.Parallel()
	c := newChance(138)
	faults := 0
	for n := range 800 {
		l := c.kernelWithTypes(n%100, 20+n%200).nodes()
		if heldVary(t, l, "a", "b", "größe", "x_1", "tid") == nil {
			faults++
			noneVary(t, l)
		}
	}
	if faults < 150 {
		t.Errorf("only %d kernels have a fault", faults)
	}
	l := impl.ReadKernel(typedAll).Nodes
	for at := range l {
		for _, kind := range []int{impl.NName, impl.NLet, impl.NSet, impl.NFor, impl.NIf, impl.NCall} {
			k := slices.Clone(l)
			k[at].Kind = kind
			heldVary(t, k, "x", "y", "q", "i")
		}
		for _, text := range []string{"x", "y", "p", "i", "q", "tid", "local", "size", "n", "a"} {
			k := slices.Clone(l)
			k[at].Text = text
			heldVary(t, k, "x", "y", "q", "i", "n")
		}
	}
}

// noneVary: all of chapter 8 where nothing is as said.
func noneVary(t *testing.T, l []impl.Node) {
	t.Helper()
	if got := impl.VaryingNames(l); len(got) > 0 {
		t.Errorf("VaryingNames(%v) = %q", l, got)
	}
	names := append([]string{"x", "y", "i"}, notNames...)
	for _, node := range l[:min(len(l), 300)] {
		names = append(names, node.Text)
	}
	slices.Sort(names)
	for _, name := range slices.Compact(names) {
		heldUses(t, l, name, nil)
		heldWhy(t, l, name, nil)
	}
}
