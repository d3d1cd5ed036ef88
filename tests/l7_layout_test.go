package tests

import (
	"math"
	"slices"
	"testing"

	"loop.example/g00053/impl"
)

// Layouts, held against the other way.

func sameLayout(a, b impl.Layout) bool {
	return slices.Equal(a.Spots, b.Spots) && a.Size == b.Size && a.Align == b.Align
}

func sameValues(a, b [][]uint32) bool {
	return slices.EqualFunc(a, b, func(x, y []uint32) bool { return slices.Equal(x, y) })
}

func heldLayout(t *testing.T, l []impl.Field, rule int) impl.Layout {
	t.Helper()
	got, ok := impl.LayoutOf(l, rule)
	want, wantOk := wantLayout(l, rule)
	if !sameLayout(got, want) || ok != wantOk {
		t.Errorf("LayoutOf(%v, %d) = %v, %v, want %v, %v", l, rule, got, ok, want, wantOk)
	}
	return got
}

func heldCell(t *testing.T, l []impl.Field, rule, at int, want cell, wantOk bool) {
	t.Helper()
	name, number, within, ok := impl.ComponentAt(l, rule, at)
	if got := (cell{name, number, within}); got != want || ok != wantOk {
		t.Errorf("ComponentAt(%v, %d, %d) = %v, %v, want %v, %v", l, rule, at, got, ok, want, wantOk)
	}
}

// placesOutside: below 0, and from a struct's end on.
func placesOutside(size int) []int {
	return []int{-1, -2, -4, -16, -size, -size - 1, -1 << 32, math.MinInt64, math.MinInt64 + 1, math.MinInt64 + size, size, size + 1, size + 2, size + 4, size + 16, 2 * size, 1 << 32, math.MaxInt64 - size, math.MaxInt64 - 1, math.MaxInt64}
}

// heldCells holds ComponentAt at each byte, or of a long struct at every so many,
// and outside.
func heldCells(t *testing.T, l []impl.Field, rule int, every int) {
	t.Helper()
	cells := wantPicture(l, rule).cells
	for at := 0; at < len(cells); at += every {
		heldCell(t, l, rule, at, cells[at], cells[at] != cell{})
	}
	for _, at := range placesOutside(len(cells)) {
		heldCell(t, l, rule, at, cell{}, false)
	}
}

func heldPacked(t *testing.T, l []impl.Field, rule int, values [][]uint32) []byte {
	t.Helper()
	got, ok := impl.PackStruct(l, rule, values)
	want, wantOk := wantPacked(l, rule, values)
	if !slices.Equal(got, want) || ok != wantOk {
		t.Errorf("PackStruct(%v, %d, %v) = %v, %v, want %v, %v", l, rule, values, got, ok, want, wantOk)
	}
	return got
}

func heldUnpacked(t *testing.T, l []impl.Field, rule int, data []byte) [][]uint32 {
	t.Helper()
	got, ok := impl.UnpackStruct(l, rule, data)
	want, wantOk := wantUnpacked(l, rule, data)
	if !sameValues(got, want) || ok != wantOk {
		t.Errorf("UnpackStruct(%v, %d, %v) = %v, %v, want %v, %v", l, rule, data, got, ok, want, wantOk)
	}
	return got
}

// heldStruct holds all that is asked of good fields.
func heldStruct(t *testing.T, c chance, l []impl.Field, rule int, every int) {
	t.Helper()
	if !impl.GoodFields(l) {
		t.Errorf("%v are not good", l)
	}
	size := heldLayout(t, l, rule).Size
	heldCells(t, l, rule, every)
	heldPacked(t, l, rule, c.numbers(l))
	heldUnpacked(t, l, rule, c.bytes(size))
}

func TestEveryTypeAlone(t *testing.T) {
	t.Parallel()
	c := newChance(121)
	for _, rule := range allRules {
		for _, kind := range wantTypes {
			for _, array := range []int{0, 1, 2, 3, 63, 64} {
				heldStruct(t, c, []impl.Field{{Name: "x", Type: kind, Array: array}}, rule, 1)
			}
		}
	}
}

// Every two types, each of them alone and as an array, and a half behind them.
func TestEveryTwoTypes(t *testing.T) {
	t.Parallel()
	c := newChance(122)
	for _, rule := range allRules {
		for _, a := range wantTypes {
			for _, b := range wantTypes {
				for n := range 9 {
					l := []impl.Field{{Name: "a", Type: a, Array: n % 3}, {Name: "b", Type: b, Array: n / 3}, {Name: "h", Type: "half"}}
					heldStruct(t, c, l[:2], rule, 1)
					heldStruct(t, c, l, rule, 1)
				}
			}
		}
	}
}

// Every three types, of which halves come to stand anywhere.
func TestEveryThreeTypes(t *testing.T) {
	t.Parallel()
	for _, rule := range allRules {
		for _, a := range wantTypes {
			for _, b := range wantTypes {
				for _, d := range wantTypes {
					heldLayout(t, []impl.Field{{Name: "h", Type: "half"}, {Name: "a", Type: a}, {Name: "b", Type: b}, {Name: "d", Type: d, Array: 3}}, rule)
					heldLayout(t, []impl.Field{{Name: "d", Type: d, Array: 3}, {Name: "b", Type: b}, {Name: "h", Type: "half", Array: 3}, {Name: "a", Type: a}}, rule)
				}
			}
		}
	}
}

func TestStructsByChance(t *testing.T) {
	t.Parallel()
	c := newChance(123)
	for n := range 600 {
		heldStruct(t, c, c.fields(1+n%12), allRules[c.Intn(3)], 1+c.Intn(40))
	}
}

// Structs without arrays, byte by byte.
func TestShortStructsByChance(t *testing.T) {
	t.Parallel()
	c := newChance(124)
	for n := range 300 {
		l := c.fields(1 + n%12)
		for i := range l {
			l[i].Array %= 3
		}
		for _, rule := range allRules {
			heldStruct(t, c, l, rule, 1)
		}
	}
}

// Fields of any sort.
func TestFieldsByChance(t *testing.T) {
	t.Parallel()
	c := newChance(125)
	good := 0
	for n := range 6000 {
		l := c.fields(n % 14 % 13)
		for range c.Intn(3) {
			if len(l) > 0 {
				c.changeField(l)
			}
		}
		if n%20 == 0 {
			l = append(l, c.fields(c.Intn(13))...)
		}
		got, want := impl.GoodFields(l), wantFields(l)
		if got != want {
			t.Errorf("GoodFields(%v) = %v", l, got)
		}
		if want {
			good++
		}
		heldLayout(t, l, c.Intn(5)-1)
	}
	if good < 2000 || good > 5000 {
		t.Errorf("%d lists of fields are good", good)
	}
}

// changeField makes one field another one.
func (c chance) changeField(l []impl.Field) {
	f := &l[c.Intn(len(l))]
	switch c.Intn(7) {
	case 0:
		f.Name = wrongTexts[c.Intn(len(wrongTexts))]
	case 1:
		f.Name = l[c.Intn(len(l))].Name
	case 2:
		f.Type = wrongTexts[c.Intn(len(wrongTexts))]
	case 3:
		f.Type = wantTypes[c.Intn(len(wantTypes))]
	case 4:
		f.Array = wrongInts[c.Intn(len(wrongInts))]
	default:
		f.Array = c.Intn(70) - 2
	}
}

// Values and bytes of any sort for fields that are good.
func TestValuesByChance(t *testing.T) {
	t.Parallel()
	c := newChance(126)
	packed, unpacked := 0, 0
	for n := range 2000 {
		l := c.fields(1 + n%4)
		rule := allRules[n%3]
		values := c.numbers(l)
		if n%2 == 0 {
			at := c.Intn(len(l))
			values[at] = c.words(len(values[at]) + c.Intn(5) - min(2, len(values[at])))
		}
		if n%5 == 0 {
			values = append(values, c.words(c.Intn(3)))[c.Intn(2):]
		}
		if len(heldPacked(t, l, rule, values)) > 0 {
			packed++
		}
		size := heldLayout(t, l, rule).Size
		if len(heldUnpacked(t, l, rule, c.bytes(size+c.Intn(5)-2))) > 0 {
			unpacked++
		}
	}
	if packed < 800 || unpacked < 200 {
		t.Errorf("only %d structs are packed, %d unpacked", packed, unpacked)
	}
}
