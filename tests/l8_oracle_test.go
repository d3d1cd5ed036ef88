package tests

import (
	"slices"
	"strings"

	"loop.example/g00053/impl"
)

// What varies another way: what is around a statement is looked for upwards from
// its node, names by the node that makes them visible, what varies by who reaches
// whom over whom, and chains by holding all of one length against each other.

// makesName: whether a node is a NLet or a NFor.
func (s *seat) makesName() bool {
	return s != nil && (s.kind == impl.NLet || s.kind == impl.NFor)
}

// all: a seat and all beneath it.
func (s *seat) all() []*seat {
	l := []*seat{s}
	for _, kid := range s.beneath {
		l = append(l, kid.all()...)
	}
	return l
}

// standing: what stands in the expressions of a statement, those in its blocks
// not among them.
func (s *seat) standing() []string {
	var l []string
	for _, kid := range s.beneath {
		if kid.kind == impl.NBlock {
			continue
		}
		for _, x := range kid.all() {
			switch {
			case x.kind == impl.NName && x.makerOf(x.text).makesName(), x.kind == impl.NCall && strings.Contains(" local tid ", " "+x.text+" "):
				l = append(l, x.text)
			}
		}
	}
	return l
}

// leans: on what the name of a statement leans for that statement.
func (s *seat) leans() []string {
	l := s.standing()
	for above := s.above; above != nil; above = above.above {
		if above.kind == impl.NIf || above.kind == impl.NFor {
			l = append(l, above.standing()...)
		}
	}
	return l
}

// web: by each name of a kernel on what it leans, rising.
type web map[string][]string

// webOf: nil of a list that is no kernel with types.
func webOf(l []impl.Node) web {
	if len(wantTyped(l).Types) == 0 {
		return nil
	}
	w := web{}
	for _, s := range seatsOf(l).all() {
		if s.makesName() || s.kind == impl.NSet {
			w[s.text] = append(w[s.text], s.leans()...)
			slices.Sort(w[s.text])
			w[s.text] = slices.Compact(w[s.text])
		}
	}
	return w
}

func (w web) names() []string {
	var l []string
	for name := range w {
		l = append(l, name)
	}
	slices.Sort(l)
	return l
}

// wantVarying: the names that reach `local` or `tid`, over each name in its turn.
func (w web) wantVarying() []string {
	reached := map[[2]string]bool{}
	for name, uses := range w {
		for _, use := range uses {
			reached[[2]string{name, use}] = true
		}
	}
	for _, over := range w.names() {
		for _, from := range w.names() {
			for _, to := range append(w.names(), "local", "tid") {
				if reached[[2]string{from, over}] && reached[[2]string{over, to}] {
					reached[[2]string{from, to}] = true
				}
			}
		}
	}
	var l []string
	for _, name := range w.names() {
		if reached[[2]string{name, "local"}] || reached[[2]string{name, "tid"}] {
			l = append(l, name)
		}
	}
	return l
}

// longer: by each name the first of the chains that are longer by a link than
// the first ones of those on which it leans.
func (w web) longer(chains web) web {
	longer := web{}
	for name, uses := range w {
		for _, use := range uses {
			rest, ok := chains[use]
			link := append([]string{use}, rest...)
			if ok && (longer[name] == nil || slices.Compare(link, longer[name]) < 0) {
				longer[name] = link
			}
		}
	}
	return longer
}

// wantWhys: by each name that varies its chain.
func (w web) wantWhys() web {
	whys := web{}
	chains := web{"local": nil, "tid": nil}
	for range len(w) {
		chains = w.longer(chains)
		for name, chain := range chains {
			if whys[name] == nil {
				whys[name] = chain
			}
		}
	}
	return whys
}

// quiet: a kernel in which `local` and `tid` are called in one place of so many
// alone.
func (c chance) quiet(l []impl.Node, loud int) []impl.Node {
	l = slices.Clone(l)
	for i, node := range l {
		if node.Kind == impl.NCall && (node.Text == "local" || node.Text == "tid") && c.Intn(loud) > 0 {
			l[i].Text = [...]string{"group", "size"}[c.Intn(2)]
		}
	}
	return l
}

// linkNames: names that stand between `local` and `tid`, ahead of them and behind
// them, by bytes.
var linkNames = []string{"a", "b", "lob", "loc", "locam", "local_", "locals", "m", "tic", "tida", "tie", "z", "A", "_", "é", "Z9"}

// tangle makes kernels by chance in which each name is there from the beginning,
// so that any one may lean on any other one.
type tangle struct {
	chance
	names []string
	loud  int // one word in so many is `local` or `tid`
	left  int // how many nodes may come
	loops int // numbers the next one
}

func (s *tangle) name() string { return s.names[s.Intn(len(s.names))] }

func (s *tangle) word() tree {
	switch {
	case s.Intn(s.loud) == 0:
		return tree{kind: impl.NCall, text: [...]string{"local", "tid"}[s.Intn(2)]}
	case s.Intn(5) == 0:
		return tree{kind: impl.NWhole, text: "1"}
	case s.Intn(9) == 0:
		return tree{impl.NLoad, "buf", []tree{s.word()}}
	}
	return tree{kind: impl.NName, text: s.name()}
}

func (s *tangle) block() tree {
	t := tree{kind: impl.NBlock}
	for range 1 + s.Intn(3) {
		if s.left > 0 {
			t.kids = append(t.kids, s.statement())
		}
	}
	return t
}

func (s *tangle) statement() tree {
	s.left -= 6
	switch s.Intn(9) {
	case 0:
		return tree{impl.NIf, "", []tree{{impl.NBinary, "<", []tree{s.word(), s.word()}}, s.block()}}
	case 1:
		return tree{impl.NIf, "", []tree{{impl.NBinary, "<", []tree{s.word(), s.word()}}, s.block(), s.block()}}
	case 2:
		name := "i" + string(rune('0'+s.loops))
		s.loops++
		t := tree{impl.NFor, name, []tree{s.word(), s.word(), s.block()}}
		s.loops -= s.Intn(2) // so that another loop may have the same name
		return t
	case 3:
		return tree{impl.NSet, s.name(), []tree{{impl.NBinary, "+", []tree{s.word(), s.word()}}}}
	case 4:
		return tree{impl.NStore, "buf", []tree{s.word(), s.word()}}
	}
	return tree{impl.NSet, s.name(), []tree{s.word()}}
}

// tangled: a kernel of so many names.
func (c chance) tangled(names, loud int) []impl.Node {
	for {
		s := &tangle{chance: c, loud: loud, left: 10 + c.Intn(4+10*names)}
		for _, i := range c.Perm(len(linkNames))[:names] {
			s.names = append(s.names, linkNames[i])
		}
		body := tree{kind: impl.NBlock}
		for i, name := range s.names {
			first := tree{kind: impl.NWhole, text: "0"}
			if i == 0 || c.Intn(12) == 0 {
				first = tree{kind: impl.NCall, text: [...]string{"local", "tid", "size"}[c.Intn(3)]}
			}
			body.kids = append(body.kids, tree{impl.NLet, name, []tree{first}})
		}
		for s.left > 0 {
			body.kids = append(body.kids, s.statement())
		}
		l := tree{impl.NKernel, "k", []tree{{kind: impl.NWholeBuf, text: "buf"}, body}}.nodes()
		if webOf(l) != nil {
			return l
		}
	}
}
