package tests

import (
	"math"
	"slices"
	"strings"
	"testing"

	"loop.example/g00053/impl"
)

// numbersComeBack: values from their bytes, and bytes from their values, but for
// the padding.
func numbersComeBack(t *testing.T, c chance, l []impl.Field, rule int) {
	t.Helper()
	values := c.numbers(l)
	data, ok := impl.PackStruct(l, rule, values)
	layout, good := impl.LayoutOf(l, rule)
	if !ok || !good || len(data) != layout.Size {
		t.Errorf("%v by %d is packed as %v", l, rule, data)
	}
	if got, ok := impl.UnpackStruct(l, rule, data); !ok || !sameValues(got, values) {
		t.Errorf("%v by %d: %v come back as %v", l, rule, values, got)
	}
	noise := c.bytes(layout.Size)
	values, ok = impl.UnpackStruct(l, rule, noise)
	data, good = impl.PackStruct(l, rule, values)
	if !ok || !good || len(data) != layout.Size {
		t.Errorf("%v by %d: %v has no values", l, rule, noise)
		return
	}
	for at := 0; at < len(data); at += 1 + len(data)/300 {
		_, _, _, isNumber := impl.ComponentAt(l, rule, at)
		if isNumber && data[at] != noise[at] || !isNumber && data[at] != 0 {
			t.Errorf("%v by %d: byte %d comes back as %d", l, rule, at, data[at])
		}
	}
}

// Promise 7: what is packed is unpacked as it was.
func TestPromise7NumbersComeBack(t *testing.T) {
	t.Parallel()
	c := newChance(127)
	for n := range 500 {
		for _, rule := range allRules {
			numbersComeBack(t, c, c.fields(1+n%12), rule)
		}
	}
}

// Promise 7: fields stand in order, none in another one, each at a multiple of its
// alignment, with less than that left free ahead of it.
func TestPromise7NoFieldLiesInAnother(t *testing.T) {
	t.Parallel()
	c := newChance(128)
	for n := range 3000 {
		l, rule := c.fields(1+n%12), allRules[n%3]
		layout, ok := impl.LayoutOf(l, rule)
		if !ok || len(layout.Spots) != len(l) {
			t.Fatalf("LayoutOf(%v, %d) = %v, %v", l, rule, layout, ok)
		}
		end := 0
		for i, spot := range layout.Spots {
			size, align := impl.TypeSize(l[i].Type, rule)
			if l[i].Array > 0 {
				if rule == impl.RuleUniform {
					align = 16
				}
				if spot.Stride < size || spot.Stride >= size+align || spot.Stride%align != 0 || spot.Stride*l[i].Array != spot.Size {
					t.Errorf("%v lies at %v by %d", l[i], spot, rule)
				}
				size = spot.Size
			}
			if spot.Name != l[i].Name || spot.Size != size || spot.Offset < end || spot.Offset >= end+align || spot.Offset%align != 0 || layout.Align%align != 0 {
				t.Errorf("%v lies at %v by %d, behind %d", l[i], spot, rule, end)
			}
			end = spot.Offset + spot.Size
		}
		if layout.Size < end || layout.Size >= end+layout.Align || layout.Size%layout.Align != 0 || rule == impl.RuleUniform && layout.Align%16 != 0 {
			t.Errorf("%v by %d ends at %d: %v", l, rule, end, layout)
		}
	}
}

// Promise 7: each byte of each number lies at one place, and within its field.
func TestPromise7EachByteLiesOnce(t *testing.T) {
	t.Parallel()
	c := newChance(129)
	for n := range 60 {
		l, rule := c.fields(1+n%6), allRules[n%3]
		for i := range l {
			l[i].Array %= 5
		}
		layout, _ := impl.LayoutOf(l, rule)
		seen := map[cell]int{}
		for at := range layout.Size {
			name, number, within, ok := impl.ComponentAt(l, rule, at)
			if !ok {
				continue
			}
			i := slices.IndexFunc(layout.Spots, func(s impl.Spot) bool { return s.Name == name })
			if spot := layout.Spots[i]; at < spot.Offset || at >= spot.Offset+spot.Size {
				t.Errorf("byte %d of %v by %d is one of %q", at, l, rule, name)
			}
			seen[cell{name, number, within}]++
		}
		for _, f := range l {
			for number := range countOf(f) {
				for within := range map[bool]int{true: 2, false: 4}[f.Type == "half"] {
					if seen[cell{f.Name, number, within}] != 1 {
						t.Errorf("byte %d of number %d of %v does not lie at one place", within, number, f)
					}
					delete(seen, cell{f.Name, number, within})
				}
			}
		}
		if len(seen) > 0 {
			t.Errorf("%v by %d: %v lie there, too", l, rule, seen)
		}
	}
}

// A number that is changed changes its own bytes alone.
func TestPromise7ANumbersOwnBytes(t *testing.T) {
	t.Parallel()
	c := newChance(130)
	for n := range 200 {
		l, rule := c.fields(1+n%5), allRules[n%3]
		values := c.numbers(l)
		first, _ := impl.PackStruct(l, rule, values)
		field := c.Intn(len(l))
		number := c.Intn(len(values[field]))
		values[field][number] ^= 0xffff
		second, _ := impl.PackStruct(l, rule, values)
		changed := 0
		for at := range first {
			if first[at] == second[at] {
				continue
			}
			changed++
			heldCell(t, l, rule, at, cell{l[field].Name, number, changed - 1}, true)
		}
		if changed != 2 {
			t.Errorf("%v by %d: %d bytes are changed by a number's lowest two", l, rule, changed)
		}
	}
}

// Promise 25: fields, rules, places, values and bytes of any sort.
func TestPromise25AnyFields(t *testing.T) {
	t.Parallel()
	c := newChance(131)
	texts := slices.Concat(wrongTexts, wantTypes, brokenRunes, badTypes)
	rules := slices.Concat(allRules, badRules, wrongInts)
	some := func(n int) int {
		if c.Intn(3) == 0 {
			return wrongInts[c.Intn(len(wrongInts))]
		}
		return c.Intn(n)
	}
	for n := range 3000 {
		l := make([]impl.Field, c.Intn(1+n%20))
		for i := range l {
			l[i] = impl.Field{Name: texts[c.Intn(len(texts))], Type: texts[c.Intn(len(texts))], Array: some(70)}
		}
		if n%3 == 0 {
			l = c.fields(n % 13)
		}
		rule := rules[c.Intn(len(rules))]
		if impl.GoodFields(l) != wantFields(l) {
			t.Errorf("GoodFields(%v)", l)
		}
		heldLayout(t, l, rule)
		at := some(300)
		want, ok := wantCell(l, rule, at)
		heldCell(t, l, rule, at, want, ok)
		values := make([][]uint32, c.Intn(14))
		for i := range values {
			values[i] = c.words(c.Intn(5))
		}
		heldPacked(t, l, rule, values)
		heldUnpacked(t, l, rule, c.bytes(c.Intn(80)))
	}
	long := slices.Repeat(fieldsOf("x int"), 100000)
	noLayout(t, long, impl.RuleTight)
	heldGoodFields(t, false, long)
	noBytes(t, "x int", slices.Repeat([][]uint32{{0}}, 100000))
	noBytes(t, "x int", [][]uint32{make([]uint32, 1000000)})
	heldUnpacked(t, fieldsOf("x int"), impl.RuleTight, make([]byte, 1000000))
}

// newNames: fields whose texts lie in memory of their own.
func newNames(l []impl.Field) []impl.Field {
	l = slices.Clone(l)
	for i := range l {
		l[i].Name, l[i].Type = strings.Clone(l[i].Name), strings.Clone(l[i].Type)
	}
	return l
}

// flat: the lists of a list, one behind the other.
func flat(l [][]uint32) []uint32 { return slices.Concat(l...) }

// Promise 25: fields are not changed, and no answer shares their memory.
func TestPromise25FieldsAreKept(t *testing.T) {
	t.Parallel()
	c := newChance(132)
	for n := range 200 {
		l, rule := newNames(c.fields(1+n%12)), allRules[n%3]
		values := c.numbers(l)
		data, _ := impl.PackStruct(l, rule, values)
		at := c.Intn(len(data))
		apartFrom(t, "GoodFields", l, func(l []impl.Field) []bool { return []bool{impl.GoodFields(l)} })
		apartFrom(t, "LayoutOf", l, func(l []impl.Field) []impl.Spot { x, _ := impl.LayoutOf(l, rule); return x.Spots })
		apartFrom(t, "LayoutOf", l, func(l []impl.Field) []int { x, _ := impl.LayoutOf(l, rule); return []int{x.Size, x.Align} })
		apartFrom(t, "PackStruct", l, func(l []impl.Field) []byte { b, _ := impl.PackStruct(l, rule, values); return b })
		apartFrom(t, "UnpackStruct", l, func(l []impl.Field) []uint32 { v, _ := impl.UnpackStruct(l, rule, data); return v[n%len(l)] })
		apartFrom(t, "ComponentAt", l, func(l []impl.Field) []cell {
			name, number, within, _ := impl.ComponentAt(l, rule, at)
			return []cell{{name, number, within}}
		})
		layout, _ := impl.LayoutOf(l, rule)
		name, _, _, _ := impl.ComponentAt(l, rule, layout.Spots[0].Offset)
		for i, spot := range layout.Spots {
			if sharesText(spot.Name, l[i].Name) || sharesText(name, l[i].Name) {
				t.Errorf("the name %q is that of its field", spot.Name)
			}
		}
	}
}

// Promise 25: values and bytes are not changed, and no answer shares their
// memory.
func TestPromise25ValuesAndBytesAreKept(t *testing.T) {
	t.Parallel()
	c := newChance(133)
	for n := range 200 {
		l, rule := c.fields(1+n%12), allRules[n%3]
		values := c.numbers(l)
		field := n % len(l)
		apartFrom(t, "PackStruct", values[field], func(words []uint32) []byte {
			v := slices.Clone(values)
			v[field] = words
			b, _ := impl.PackStruct(l, rule, v)
			if !slices.EqualFunc(v, values, func(x, y []uint32) bool { return len(x) == len(y) }) {
				t.Error("PackStruct changes the list of lists")
			}
			return b
		})
		layout, _ := impl.LayoutOf(l, rule)
		data := c.bytes(layout.Size)
		apartFrom(t, "UnpackStruct", data, func(data []byte) []uint32 { v, _ := impl.UnpackStruct(l, rule, data); return v[field] })
		apartFrom(t, "UnpackStruct", data, func(data []byte) []uint32 { v, _ := impl.UnpackStruct(l, rule, data); return flat(v) })
	}
}

// Promise 25: no two lists of one answer share any memory, nor those of two
// answers.
func TestPromise25ListsOfOneAnswer(t *testing.T) {
	t.Parallel()
	c := newChance(134)
	for n := range 200 {
		l, rule := c.fields(1+n%12), allRules[n%3]
		layout, _ := impl.LayoutOf(l, rule)
		data := c.bytes(layout.Size)
		got, _ := impl.UnpackStruct(l, rule, data)
		again, _ := impl.UnpackStruct(l, rule, data)
		for i := range got {
			others := slices.Concat(got[:i], got[i+1:])
			was := flat(others)
			whole := got[i][:cap(got[i])]
			for k := range whole {
				whole[k] = ^whole[k]
			}
			if !slices.Equal(flat(others), was) {
				t.Errorf("list %d of %v shares its memory with another one", i, l)
			}
		}
		for i := range got[:cap(got)] {
			got[:cap(got)][i] = nil
		}
		if want, _ := wantUnpacked(l, rule, data); !sameValues(again, want) {
			t.Errorf("%v by %d: what was answered is changed by writing into another answer", l, rule)
		}
		heldUnpacked(t, l, rule, data)
	}
}

// Promise 25: what lies behind the length of a list is not looked at.
func TestPromise25BehindFields(t *testing.T) {
	t.Parallel()
	long := fieldsOf("a int, b half, c vec3, a bool -1")
	values := [][]uint32{{1, 99}, {2, math.MaxUint32}, {3, 4, 5, 99}, {6}}
	for i, n := range []int{1, 1, 3} {
		values[i] = values[i][:n]
	}
	data := append(slices.Repeat([]byte{7}, 32), 9, 9, 9)
	for _, rule := range allRules {
		for n := range 4 {
			l := long[:n]
			if impl.GoodFields(l) != (n > 0) {
				t.Errorf("GoodFields(%v)", l)
			}
			size := heldLayout(t, l, rule).Size
			heldPacked(t, l, rule, values[:n])
			heldUnpacked(t, l, rule, data[:size])
		}
		noLayout(t, long, rule)
	}
}

// Promise 25: answers hang on what is given alone.
func TestPromise25LayoutsAgain(t *testing.T) {
	t.Parallel()
	c := newChance(135)
	for n := range 300 {
		l, rule := c.fields(1+n%12), allRules[n%3]
		first, _ := impl.LayoutOf(l, rule)
		impl.LayoutOf(c.fields(1+c.Intn(12)), c.Intn(3))
		impl.TypeSize(wantTypes[n%9], c.Intn(3))
		if second, _ := impl.LayoutOf(newNames(l), rule); !sameLayout(first, second) {
			t.Errorf("%v by %d lies otherwise again", l, rule)
		}
	}
}
