package tests

import (
	"slices"
	"strconv"
	"strings"

	"loop.example/g00053/impl"
)

// calm writes kernels by chance whose threads mostly keep out of each other's
// way: while a part is done a buffer is read alone, or each thread has a place of
// its own in it, which may be that of another thread in the part ahead.
type calm struct {
	chance
	oneGroup bool
	loud     int      // one leaf in so many hangs on the thread
	rash     int      // one store in so many is at any place, none at 0
	owned    [4]bool  // whether each thread has its own place in a buffer
	own      string   // the name of that place
	seen     []known  // the names that are visible
	names    int      // numbers the next one
	text     []string // what is written
}

// calmBuffers: the letters of the buffers `b0` to `b3`.
const calmBuffers = "iiif"

func (c *calm) write(words ...string) { c.text = append(c.text, words...) }

func (c *calm) newName() string {
	c.names++
	return string(rune('a'+c.Intn(26))) + strconv.Itoa(c.names)
}

// buffer: one that is owned, or is not, and has a letter; false where there is
// none.
func (c *calm) buffer(owned bool, letter byte) (string, bool) {
	for _, i := range c.Perm(len(c.owned)) {
		if c.owned[i] == owned && calmBuffers[i] == letter {
			return "b" + strconv.Itoa(i), true
		}
	}
	return "", false
}

func (c *calm) leaf(letter byte) string {
	var names []string
	for _, k := range c.seen {
		if k.letter == letter {
			names = append(names, k.name)
		}
	}
	switch {
	case c.Intn(c.loud) == 0:
		return [...]string{"tid ( )", "local ( )"}[c.Intn(2)]
	case len(names) > 0 && c.Intn(3) > 0:
		return names[c.Intn(len(names))]
	case letter == 'f' && c.Intn(2) == 0:
		return someFloatTexts[c.Intn(len(someFloatTexts))]
	case c.Intn(4) == 0:
		return [...]string{"size ( )", "group ( )", "n"}[c.Intn(3)]
	}
	return strconv.Itoa(c.Intn(9))
}

// load: of a buffer that is read alone at any place, of one that is owned at the
// own one.
func (c *calm) load(letter byte, n int) (string, bool) {
	owned := c.Intn(c.loud) == 0
	name, ok := c.buffer(owned, letter)
	switch {
	case !ok:
		return "", false
	case owned:
		return name + " [ " + c.own + " ]", true
	}
	return name + " [ " + c.of('i', n/2) + " ]", true
}

func (c *calm) of(letter byte, n int) string {
	if n <= 1 {
		return c.leaf(letter)
	}
	if text, ok := c.load(letter, n); ok && c.Intn(2) == 0 {
		return text
	}
	switch {
	case letter == 'f':
		return "( " + c.of('f', n/2) + " " + [...]string{"+", "-", "*", "/"}[c.Intn(4)] + " float ( " + c.of('i', n/2) + " ) )"
	case c.Intn(5) == 0:
		return [...]string{"min", "max"}[c.Intn(2)] + " ( " + c.of('i', n/2) + " , " + c.of('i', n/2) + " )"
	}
	return "( " + c.of('i', n/2) + " " + [...]string{"+", "-", "*", "%", "^", ">>"}[c.Intn(6)] + " " + c.of('i', n/2) + " )"
}

func (c *calm) condition() string {
	return c.of('i', 3) + " " + [...]string{"<", "<=", "==", "!="}[c.Intn(4)] + " " + c.of('i', 2)
}

func (c *calm) anyLetter() byte { return "iif"[c.Intn(3)] }

func (c *calm) statement(n int) {
	switch c.Intn(8) {
	case 0, 1:
		letter := c.anyLetter()
		if name, ok := c.buffer(true, letter); ok {
			place := c.own
			if c.rash > 0 && c.Intn(c.rash) == 0 {
				place = c.of('i', 2)
			}
			c.write(name, "[", place, "] =", c.of(letter, n), ";")
			return
		}
	case 2, 3:
		for _, i := range c.Perm(len(c.seen)) {
			if k := c.seen[i]; k.maker == impl.NLet {
				c.write(k.name, "=", c.of(k.letter, n), ";")
				return
			}
		}
	case 4:
		c.write("if", c.condition())
		c.block(n/2, known{})
		if c.Intn(2) == 0 {
			c.write("else")
			c.block(n/2, known{})
		}
		return
	case 5:
		name := c.newName()
		c.write("for", name, "in", strconv.Itoa(c.Intn(2)), "..", [...]string{"2", "size ( )", "n"}[c.Intn(3)])
		c.block(n/2, known{name, 'i', impl.NFor})
		return
	}
	name, letter := c.newName(), c.anyLetter()
	value := c.of(letter, n)
	c.write("let", name, "=", value, ";")
	if letter == 'f' && strings.Contains("n size group tid local", strings.Fields(value)[0]) || letter == 'f' && isWholeText(value) {
		letter = 'i' // a whole number stands where a float may
	}
	c.seen = append(c.seen, known{name, letter, impl.NLet})
}

func isWholeText(text string) bool {
	_, err := strconv.Atoi(text)
	return err == nil
}

func (c *calm) block(n int, loop known) {
	outside := c.seen
	c.seen = slices.Clone(c.seen)
	if loop.name != "" {
		c.seen = append(c.seen, loop)
	}
	c.write("{")
	for range 1 + c.Intn(2) {
		c.statement(n)
	}
	c.write("}")
	c.seen = outside
}

func (c *calm) part() {
	if c.oneGroup {
		for i := range c.owned {
			c.owned[i] = c.Intn(2) == 0
		}
	}
	c.own = c.newName()
	c.write("let", c.own, "= group ( ) * size ( ) + ( local ( ) +", strconv.Itoa(c.Intn(4)), ") % size ( ) ;")
	for range 1 + c.Intn(4) {
		c.statement(1 + c.Intn(6))
	}
}

// calmKernel: a kernel with types of a few parts.
func (c chance) calmKernel(oneGroup bool, loud, rash int) []impl.Node {
	for {
		s := &calm{chance: c, oneGroup: oneGroup, loud: loud, rash: rash}
		for i := range s.owned {
			s.owned[i] = c.Intn(2) == 0
		}
		s.write("kernel k ( int n , buffer int b0 , buffer int b1 , buffer int b2 , buffer float b3 ) {")
		s.part()
		for range c.Intn(4) {
			s.write("barrier ;")
			s.part()
		}
		s.write("}")
		if r := impl.ReadKernel(strings.Join(s.text, " ")); r.Code == 0 && len(wantTyped(r.Nodes).Types) > 0 {
			return r.Nodes
		}
	}
}

// calmLaunch: of one group where that is asked for, with buffers of one length.
func (c chance) calmLaunch(l []impl.Node, oneGroup bool) impl.Launch {
	x := c.launchFor(l)
	x.Words[0] = uint32(c.Intn(5))
	if oneGroup {
		x.Groups = 1
	}
	for i := range x.Buffers {
		x.Buffers[i] = make([]uint32, [...]int{32, 32, 40, 3}[c.Intn(4)])
		for j := range x.Buffers[i] {
			x.Buffers[i][j] = c.wordFor([...]int{impl.NWholeBuf, impl.NFloatBuf}[i/3])
		}
	}
	return x
}
