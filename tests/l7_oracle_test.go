package tests

import (
	"math"
	"slices"
	"strings"

	"loop.example/g00053/impl"
)

// Layouts, another way: a struct is laid out byte by byte, with what lies at each
// of them, and all that is asked is looked up there.

var wantTypes = strings.Fields("half int float vec2 vec3 vec4 mat2 mat3 mat4")

// wantColumns: how many columns a type has, of how many numbers.
var wantColumns = map[string][2]int{
	"half": {1, 1}, "int": {1, 1}, "float": {1, 1}, "vec2": {1, 2}, "vec3": {1, 3}, "vec4": {1, 4}, "mat2": {2, 2}, "mat3": {3, 3}, "mat4": {4, 4},
}

// wantAligns: of a column, by RuleTight, RuleBuffer and RuleUniform.
var wantAligns = map[string][3]int{
	"half": {2, 2, 2}, "int": {4, 4, 4}, "float": {4, 4, 4},
	"vec2": {4, 8, 8}, "vec3": {4, 16, 16}, "vec4": {4, 16, 16},
	"mat2": {4, 8, 8}, "mat3": {4, 16, 16}, "mat4": {4, 16, 16},
}

var allRules = []int{impl.RuleTight, impl.RuleBuffer, impl.RuleUniform}

// cell: what lies at a byte of a struct: the byte of a number of a field. The
// zero cell is padding.
type cell struct {
	name         string
	number, byte int
}

// picture: a struct's bytes up to an end, the spots of its fields, and how it is
// aligned.
type picture struct {
	rule  int
	cells []cell
	spots []impl.Spot
	align int
}

// pad goes on to the next multiple.
func (p *picture) pad(step int) {
	for len(p.cells)%step != 0 {
		p.cells = append(p.cells, cell{})
	}
}

func (p *picture) uniform(align int) int {
	if p.rule == impl.RuleUniform && align < 16 {
		return 16
	}
	return align
}

// field lays one out: a stride is how far it came with the first thing, or the
// first column, and its padding.
func (p *picture) field(f impl.Field) {
	columns, numbers := wantColumns[f.Type][0], wantColumns[f.Type][1]
	align := wantAligns[f.Type][p.rule]
	array, matrix := f.Array > 0, columns > 1
	if array || matrix {
		align = p.uniform(align)
	}
	p.pad(align)
	p.align = max(p.align, align)
	spot := impl.Spot{Name: f.Name, Offset: len(p.cells)}
	number, things := 0, 1
	if array {
		things = f.Array
	}
	for thing := range things {
		for column := range columns {
			for range numbers {
				p.number(f, number)
				number++
			}
			if matrix {
				p.pad(align)
			}
			if matrix && !array && column == 0 {
				spot.Stride = len(p.cells) - spot.Offset
			}
		}
		if array {
			p.pad(align)
		}
		if array && thing == 0 {
			spot.Stride = len(p.cells) - spot.Offset
		}
	}
	spot.Size = len(p.cells) - spot.Offset
	p.spots = append(p.spots, spot)
}

func (p *picture) number(f impl.Field, number int) {
	width := 4
	if f.Type == "half" {
		width = 2
	}
	for i := range width {
		p.cells = append(p.cells, cell{f.Name, number, i})
	}
}

// wantPicture: of fields that are good and a rule.
func wantPicture(l []impl.Field, rule int) *picture {
	p := &picture{rule: rule}
	for _, f := range l {
		p.field(f)
	}
	p.align = p.uniform(p.align)
	p.pad(p.align)
	return p
}

func wantFields(l []impl.Field) bool {
	names := map[string]bool{}
	for _, f := range l {
		names[f.Name] = true
		if !wantName(f.Name) || !slices.Contains(wantTypes, f.Type) || f.Array < 0 || f.Array > 64 {
			return false
		}
	}
	return len(l) >= 1 && len(l) <= 12 && len(names) == len(l)
}

func wantRule(rule int) bool { return slices.Contains(allRules, rule) }

func wantLayout(l []impl.Field, rule int) (impl.Layout, bool) {
	if !wantFields(l) || !wantRule(rule) {
		return impl.Layout{}, false
	}
	p := wantPicture(l, rule)
	return impl.Layout{Spots: p.spots, Size: len(p.cells), Align: p.align}, true
}

func wantCell(l []impl.Field, rule, at int) (cell, bool) {
	if !wantFields(l) || !wantRule(rule) {
		return cell{}, false
	}
	cells := wantPicture(l, rule).cells
	if at < 0 || at >= len(cells) || cells[at] == (cell{}) {
		return cell{}, false
	}
	return cells[at], true
}

// countOf: how many numbers a field has.
func countOf(f impl.Field) int {
	n := wantColumns[f.Type][0] * wantColumns[f.Type][1]
	if f.Array > 0 {
		return n * f.Array
	}
	return n
}

func wantNumbers(f impl.Field, words []uint32) bool {
	return len(words) == countOf(f) && !(f.Type == "half" && slices.ContainsFunc(words, func(w uint32) bool { return w > 65535 }))
}

func wantPacked(l []impl.Field, rule int, values [][]uint32) ([]byte, bool) {
	if !wantFields(l) || !wantRule(rule) || !slices.EqualFunc(l, values, wantNumbers) {
		return nil, false
	}
	of := map[string][]uint32{}
	for i, f := range l {
		of[f.Name] = values[i]
	}
	var data []byte
	for _, c := range wantPicture(l, rule).cells {
		b := byte(0)
		if c != (cell{}) {
			b = byte(uint64(of[c.name][c.number]) / uint64(math.Pow(256, float64(c.byte))) % 256)
		}
		data = append(data, b)
	}
	return data, true
}

func wantUnpacked(l []impl.Field, rule int, data []byte) ([][]uint32, bool) {
	if !wantFields(l) || !wantRule(rule) {
		return nil, false
	}
	cells := wantPicture(l, rule).cells
	if len(data) != len(cells) {
		return nil, false
	}
	of := map[string][]uint32{}
	for _, f := range l {
		of[f.Name] = make([]uint32, countOf(f))
	}
	for i, c := range cells {
		if c != (cell{}) {
			of[c.name][c.number] += uint32(data[i]) * uint32(math.Pow(256, float64(c.byte)))
		}
	}
	var values [][]uint32
	for _, f := range l {
		values = append(values, of[f.Name])
	}
	return values, true
}

// array: none, one, a few or the most.
func (c chance) array() int {
	switch c.Intn(8) {
	case 0:
		return 1
	case 1:
		return 1 + c.Intn(5)
	case 2:
		return 1 + c.Intn(64)
	case 3:
		return 64
	}
	return 0
}

// fields: so many that are good.
func (c chance) fields(n int) []impl.Field {
	var l []impl.Field
	for len(l) < n {
		f := impl.Field{Name: c.name(), Type: wantTypes[c.Intn(len(wantTypes))], Array: c.array()}
		if c.Intn(3) == 0 {
			f.Type = "half" // they lie closest together
		}
		if wantFields(append(slices.Clone(l), f)) {
			l = append(l, f)
		}
	}
	return l
}

// numbers: for fields that are good, values that they may have.
func (c chance) numbers(l []impl.Field) [][]uint32 {
	var values [][]uint32
	for _, f := range l {
		words := c.words(countOf(f))
		for i := range words {
			if f.Type == "half" {
				words[i] = []uint32{words[i] % 65536, 0, 65535, 255, 256}[c.Intn(5)]
			}
		}
		values = append(values, words)
	}
	return values
}

func (c chance) bytes(n int) []byte {
	data := make([]byte, n)
	c.Read(data)
	return data
}
