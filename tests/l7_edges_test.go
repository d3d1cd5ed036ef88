package tests

import (
	"math"
	"slices"
	"strconv"
	"strings"
	"testing"

	"loop.example/g00053/impl"
)

// The edges that chapter 7 names, with their places written out.

// fieldsOf: fields by their texts: a name, a type, and how many where it is an
// array.
func fieldsOf(text string) []impl.Field {
	var l []impl.Field
	for _, one := range strings.Split(text, ", ") {
		w := append(strings.Fields(one), "0")
		array, _ := strconv.Atoi(w[2])
		l = append(l, impl.Field{Name: w[0], Type: w[1], Array: array})
	}
	return l
}

// toldLayout: name, offset, size and stride of each field; then the struct's size
// and alignment.
func toldLayout(l []impl.Field, rule int) string {
	layout, ok := impl.LayoutOf(l, rule)
	if !ok {
		return "false"
	}
	var spots []string
	for _, s := range layout.Spots {
		spots = append(spots, s.Name+" "+strconv.Itoa(s.Offset)+" "+strconv.Itoa(s.Size)+" "+strconv.Itoa(s.Stride))
	}
	return strings.Join(spots, ", ") + "; " + strconv.Itoa(layout.Size) + " " + strconv.Itoa(layout.Align)
}

// heldLayouts: fields and what is told of them, one behind the other.
func heldLayouts(t *testing.T, rule int, l []string) {
	t.Helper()
	for i := 0; i < len(l); i += 2 {
		if got := toldLayout(fieldsOf(l[i]), rule); got != l[i+1] {
			t.Errorf("%s by %d: %s, want %s", l[i], rule, got, l[i+1])
		}
		heldLayout(t, fieldsOf(l[i]), rule)
		heldCells(t, fieldsOf(l[i]), rule, 1)
	}
}

func TestTightLayouts(t *testing.T) {
	t.Parallel()
	heldLayouts(t, impl.RuleTight, []string{
		"x half", "x 0 2 0; 2 2",
		"x half 1", "x 0 2 2; 2 2",
		"x half 3", "x 0 6 2; 6 2",
		"x int", "x 0 4 0; 4 4",
		"x float 64", "x 0 256 4; 256 4",
		"x vec2", "x 0 8 0; 8 4",
		"x vec3", "x 0 12 0; 12 4",
		"x vec3 1", "x 0 12 12; 12 4",
		"x vec3 2", "x 0 24 12; 24 4",
		"x vec4", "x 0 16 0; 16 4",
		"x mat2", "x 0 16 8; 16 4",
		"x mat3", "x 0 36 12; 36 4",
		"x mat4", "x 0 64 16; 64 4",
		"x mat3 1", "x 0 36 36; 36 4",
		"x mat3 2", "x 0 72 36; 72 4",
		"x mat4 64", "x 0 4096 64; 4096 4",
		"h half, k half", "h 0 2 0, k 2 2 0; 4 2",
		"h half, k half, l half", "h 0 2 0, k 2 2 0, l 4 2 0; 6 2",
		"h half, x int", "h 0 2 0, x 4 4 0; 8 4",
		"x int, h half", "x 0 4 0, h 4 2 0; 8 4",
		"h half 3, k half, x vec4", "h 0 6 2, k 6 2 0, x 8 16 0; 24 4",
		"a half, x vec2, b half, m mat2, d half", "a 0 2 0, x 4 8 0, b 12 2 0, m 16 16 8, d 32 2 0; 36 4",
	})
}

func TestBufferLayouts(t *testing.T) {
	t.Parallel()
	heldLayouts(t, impl.RuleBuffer, []string{
		"x half", "x 0 2 0; 2 2",
		"x half 1", "x 0 2 2; 2 2",
		"x half 3", "x 0 6 2; 6 2",
		"x int 3", "x 0 12 4; 12 4",
		"x vec2", "x 0 8 0; 8 8",
		"x vec2 3", "x 0 24 8; 24 8",
		"x vec3", "x 0 12 0; 16 16",
		"x vec3 1", "x 0 16 16; 16 16",
		"x vec3 2", "x 0 32 16; 32 16",
		"x vec4", "x 0 16 0; 16 16",
		"x mat2", "x 0 16 8; 16 8",
		"x mat3", "x 0 48 16; 48 16",
		"x mat4", "x 0 64 16; 64 16",
		"x mat2 3", "x 0 48 16; 48 8",
		"x mat3 2", "x 0 96 48; 96 16",
		"a vec3, x float", "a 0 12 0, x 12 4 0; 16 16",
		"a vec3 1, x float", "a 0 16 16, x 16 4 0; 32 16",
		"a mat3, x float", "a 0 48 16, x 48 4 0; 64 16",
		"a float, b vec2, c half", "a 0 4 0, b 8 8 0, c 16 2 0; 24 8",
		"h half, k half 2, x float", "h 0 2 0, k 2 4 2, x 8 4 0; 12 4",
		"h half, x vec4, k half", "h 0 2 0, x 16 16 0, k 32 2 0; 48 16",
		"h half, x mat2", "h 0 2 0, x 8 16 8; 24 8",
		"a float, b vec3, c float 2, h half", "a 0 4 0, b 16 12 0, c 28 8 4, h 36 2 0; 48 16",
	})
}

// By this rule alone arrays raise their alignment, and so does the struct.
func TestUniformLayouts(t *testing.T) {
	t.Parallel()
	heldLayouts(t, impl.RuleUniform, []string{
		"x half", "x 0 2 0; 16 16",
		"x half 1", "x 0 16 16; 16 16",
		"x half 3", "x 0 48 16; 48 16",
		"x int", "x 0 4 0; 16 16",
		"x int 64", "x 0 1024 16; 1024 16",
		"x vec2", "x 0 8 0; 16 16",
		"x vec2 2", "x 0 32 16; 32 16",
		"x vec3", "x 0 12 0; 16 16",
		"x vec3 2", "x 0 32 16; 32 16",
		"x vec4 2", "x 0 32 16; 32 16",
		"x mat2", "x 0 32 16; 32 16",
		"x mat2 1", "x 0 32 32; 32 16",
		"x mat2 3", "x 0 96 32; 96 16",
		"x mat3", "x 0 48 16; 48 16",
		"x mat3 2", "x 0 96 48; 96 16",
		"x mat4", "x 0 64 16; 64 16",
		"x mat4 2", "x 0 128 64; 128 16",
		"h half, k half, x int", "h 0 2 0, k 2 2 0, x 4 4 0; 16 16",
		"h half, x int 2, k half", "h 0 2 0, x 16 32 16, k 48 2 0; 64 16",
		"h half, k half 1, l half", "h 0 2 0, k 16 16 16, l 32 2 0; 48 16",
		"a float, m mat2, b float", "a 0 4 0, m 16 32 16, b 48 4 0; 64 16",
		"a vec3, b float, c vec2, d half", "a 0 12 0, b 12 4 0, c 16 8 0, d 24 2 0; 32 16",
		"a float, b vec3, c float 2, h half", "a 0 4 0, b 16 12 0, c 32 32 16, h 64 2 0; 80 16",
	})
}

// As many fields as may be, of the longest that there are.
func TestLongestLayouts(t *testing.T) {
	t.Parallel()
	var l []impl.Field
	for i := range 12 {
		l = append(l, impl.Field{Name: "m" + strconv.Itoa(i), Type: "mat4", Array: 64})
	}
	for _, rule := range allRules {
		layout := heldLayout(t, l, rule)
		if layout.Size != 49152 || len(layout.Spots) != 12 || layout.Spots[11] != (impl.Spot{Name: "m11", Offset: 45056, Size: 4096, Stride: 64}) {
			t.Errorf("%v", layout)
		}
		heldCell(t, l, rule, 49151, cell{"m11", 1023, 3}, true)
		heldCell(t, l, rule, 45056, cell{"m11", 0, 0}, true)
		heldCell(t, l, rule, 45055, cell{"m10", 1023, 3}, true)
		heldCell(t, l, rule, 49152, cell{}, false)
	}
}

func TestTypeSizes(t *testing.T) {
	t.Parallel()
	const sizes = `half 2 2 2 2 2 2, int 4 4 4 4 4 4, float 4 4 4 4 4 4, vec2 8 4 8 8 8 8, vec3 12 4 12 16 12 16, vec4 16 4 16 16 16 16, mat2 16 4 16 8 32 16, mat3 36 4 48 16 48 16, mat4 64 4 64 16 64 16`
	for _, row := range strings.Split(sizes, ", ") {
		w := strings.Fields(row)
		for _, rule := range allRules {
			size, align := impl.TypeSize(w[0], rule)
			if strconv.Itoa(size) != w[1+2*rule] || strconv.Itoa(align) != w[2+2*rule] {
				t.Errorf("TypeSize(%q, %d) = %d, %d, want %s, %s", w[0], rule, size, align, w[1+2*rule], w[2+2*rule])
			}
		}
		for _, rule := range badRules {
			noSize(t, w[0], rule)
		}
	}
	for _, kind := range badTypes {
		for _, rule := range slices.Concat(allRules, badRules) {
			noSize(t, kind, rule)
		}
	}
}

var badRules = []int{-1, -2, -3, 3, 4, 16, 256, 257, 258, 1 << 32, 1<<32 + 1, 1<<32 + 2, -1 << 32, -1<<32 + 2, math.MinInt64, math.MinInt64 + 1, math.MinInt64 + 2, math.MaxInt64 - 1, math.MaxInt64}

var badTypes = slices.Concat(strings.Fields("bool buffer true kernel Half HALF Int Vec2 vec vec0 vec1 vec5 vec22 vec02 mat mat1 mat5 mat22 mat2x2 double f16 hal halff nt ints floats ec3 at3 vec3[2] mat3,"), []string{"", " ", "half ", " half", "vec 2", "vec2\x00", "\x00", "vec2\n", "mat\xff", "vec²", "vec２", strings.Repeat("mat4", 10000)})

func noSize(t *testing.T, kind string, rule int) {
	t.Helper()
	if size, align := impl.TypeSize(kind, rule); size != 0 || align != 0 {
		t.Errorf("TypeSize(%q, %d) = %d, %d", kind, rule, size, align)
	}
}

// heldGoodFields: whether fields are good, and have a layout just then.
func heldGoodFields(t *testing.T, want bool, l []impl.Field) {
	t.Helper()
	if impl.GoodFields(l) != want || wantFields(l) != want {
		t.Errorf("GoodFields(%v) = %v", l, !want)
	}
	for _, rule := range allRules {
		if _, ok := impl.LayoutOf(l, rule); ok != want {
			t.Errorf("LayoutOf(%v, %d): %v", l, rule, ok)
		}
		if !want {
			noLayout(t, l, rule)
		}
	}
}

// noLayout: the zero answer of all that takes fields and a rule, at any bytes and
// values.
func noLayout(t *testing.T, l []impl.Field, rule int) {
	t.Helper()
	if got, ok := impl.LayoutOf(l, rule); ok || len(got.Spots) != 0 || got.Size != 0 || got.Align != 0 {
		t.Errorf("LayoutOf(%v, %d) = %v, %v", l, rule, got, ok)
	}
	for _, at := range []int{math.MinInt64, -1, 0, 1, 4, 16, math.MaxInt64} {
		heldCell(t, l, rule, at, cell{}, false)
	}
	var values [][]uint32
	for _, f := range l {
		if n := countOf(f); n >= 0 && n < 2000 {
			values = append(values, make([]uint32, n))
		}
	}
	for _, v := range [][][]uint32{nil, {}, {nil}, {{}}, {{0}}, values} {
		if got, ok := impl.PackStruct(l, rule, v); ok || len(got) != 0 {
			t.Errorf("PackStruct(%v, %d, %v) = %v, %v", l, rule, v, got, ok)
		}
	}
	for _, n := range []int{0, 1, 2, 4, 8, 16, 32, 64} {
		if got, ok := impl.UnpackStruct(l, rule, make([]byte, n)); ok || len(got) != 0 {
			t.Errorf("UnpackStruct(%v, %d, %d bytes) = %v, %v", l, rule, n, got, ok)
		}
	}
}

func TestHowManyFields(t *testing.T) {
	t.Parallel()
	var l []impl.Field
	heldGoodFields(t, false, nil)
	heldGoodFields(t, false, []impl.Field{})
	for n := 1; n <= 40; n++ {
		l = append(l, impl.Field{Name: "f" + strconv.Itoa(n), Type: "half"})
		heldGoodFields(t, n <= 12, l)
	}
}

func TestNamesOfFields(t *testing.T) {
	t.Parallel()
	one := func(name string) []impl.Field { return []impl.Field{{Name: name, Type: "int"}} }
	for _, name := range slices.Concat(wantWords, wantSigns, brokenRunes, []string{"", " ", "1", "1x", "x y", "x ", " x", "x\n", "x.", "x\x00", strings.Repeat("x", 21), strings.Repeat("é", 21), strings.Repeat("x", 100000)}) {
		heldGoodFields(t, false, one(name))
		heldGoodFields(t, false, append(one("x"), one(name)...))
	}
	for _, name := range slices.Concat(wholeRunes, []string{"x", "_", "X", "x1", "half", "vec2", "mat4", "abs", "tid", "größe", strings.Repeat("x", 20), strings.Repeat("😀", 20)}) {
		heldGoodFields(t, true, one(name))
	}
	heldGoodFields(t, false, fieldsOf("x int, x int"))
	heldGoodFields(t, false, fieldsOf("x int, x half 3"))
	heldGoodFields(t, false, fieldsOf("a int, b int, c int, a int"))
	heldGoodFields(t, false, fieldsOf("a int, b int, c int, b int"))
	heldGoodFields(t, false, fieldsOf("a int, b int, c int, c int"))
	heldGoodFields(t, true, fieldsOf("a int, A int, aa int, _a int, a1 int, á int"))
	twelve := fieldsOf("a int, b int, c int, d int, e int, f int, g int, h int, i int, j int, k int, l int")
	heldGoodFields(t, true, twelve)
	for i := range twelve {
		for k := range twelve {
			l := slices.Clone(twelve)
			l[i].Name = l[k].Name
			heldGoodFields(t, i == k, l)
		}
	}
}

func TestTypesOfFields(t *testing.T) {
	t.Parallel()
	for _, kind := range wantTypes {
		heldGoodFields(t, true, []impl.Field{{Name: "x", Type: kind}})
		heldGoodFields(t, true, []impl.Field{{Name: "x", Type: kind, Array: 2}})
	}
	for _, kind := range badTypes {
		heldGoodFields(t, false, []impl.Field{{Name: "x", Type: kind}})
		heldGoodFields(t, false, []impl.Field{{Name: "x", Type: "int"}, {Name: "y", Type: kind}})
		heldGoodFields(t, false, []impl.Field{{Name: "x", Type: kind}, {Name: "y", Type: "int"}})
	}
}

func TestArraysOfFields(t *testing.T) {
	t.Parallel()
	for _, kind := range wantTypes {
		for array := -3; array <= 70; array++ {
			heldGoodFields(t, array >= 0 && array <= 64, []impl.Field{{Name: "x", Type: kind, Array: array}})
		}
		for _, array := range []int{-1 << 32, -1<<32 + 1, 1 << 32, 1<<32 + 1, 256, 1 << 58, 1 << 60, 1 << 62, math.MinInt64, math.MinInt64 + 1, math.MaxInt64 - 1, math.MaxInt64} {
			heldGoodFields(t, false, []impl.Field{{Name: "x", Type: kind, Array: array}})
			heldGoodFields(t, false, []impl.Field{{Name: "y", Type: "int"}, {Name: "x", Type: kind, Array: array}})
		}
	}
}

func TestRulesThatAreNone(t *testing.T) {
	t.Parallel()
	for _, rule := range badRules {
		for _, kind := range wantTypes {
			noLayout(t, []impl.Field{{Name: "x", Type: kind}}, rule)
			noLayout(t, []impl.Field{{Name: "x", Type: kind, Array: 1}}, rule)
		}
		noLayout(t, nil, rule)
	}
}

// toldCells: what lies at the bytes of a struct: each number by its field's name
// and its own number, and how many bytes of padding there are.
func toldCells(t *testing.T, l []impl.Field, rule int) string {
	t.Helper()
	layout, _ := impl.LayoutOf(l, rule)
	var told []string
	padding, next := 0, 0
	for at := range layout.Size + 1 {
		name, number, within, ok := impl.ComponentAt(l, rule, at)
		if padding > 0 && (ok || at == layout.Size) {
			told = append(told, "-"+strconv.Itoa(padding))
			padding = 0
		}
		if !ok {
			padding++
			continue
		}
		if within == 0 {
			told = append(told, name+strconv.Itoa(number))
			next = 0
		}
		if within != next {
			t.Errorf("byte %d of %v is byte %d of its number", at, l, within)
		}
		next++
	}
	return strings.Join(told, " ")
}

func TestWhatLiesAtEachByte(t *testing.T) {
	t.Parallel()
	for _, row := range []struct {
		rule         int
		fields, want string
	}{
		{impl.RuleTight, "h half, x int", "h0 -2 x0"},
		{impl.RuleTight, "x int, h half", "x0 h0 -2"},
		{impl.RuleTight, "v vec3 2", "v0 v1 v2 v3 v4 v5"},
		{impl.RuleTight, "m mat3 2, h half 3", "m0 m1 m2 m3 m4 m5 m6 m7 m8 m9 m10 m11 m12 m13 m14 m15 m16 m17 h0 h1 h2 -2"},
		{impl.RuleBuffer, "h half 3, x vec2", "h0 h1 h2 -2 x0 x1"},
		{impl.RuleBuffer, "v vec3 2", "v0 v1 v2 -4 v3 v4 v5 -4"},
		{impl.RuleBuffer, "v vec3, x float", "v0 v1 v2 x0"},
		{impl.RuleBuffer, "m mat3, x float", "m0 m1 m2 -4 m3 m4 m5 -4 m6 m7 m8 -4 x0 -12"},
		{impl.RuleBuffer, "m mat3 2", "m0 m1 m2 -4 m3 m4 m5 -4 m6 m7 m8 -4 m9 m10 m11 -4 m12 m13 m14 -4 m15 m16 m17 -4"},
		{impl.RuleBuffer, "a float, b vec3, c float 2, h half", "a0 -12 b0 b1 b2 c0 c1 h0 -10"},
		{impl.RuleBuffer, "m mat2 2, h half", "m0 m1 m2 m3 m4 m5 m6 m7 h0 -6"},
		{impl.RuleUniform, "x half", "x0 -14"},
		{impl.RuleUniform, "h half, k half, x int, v vec2", "h0 k0 x0 v0 v1"},
		{impl.RuleUniform, "m mat2 2, h half 2", "m0 m1 -8 m2 m3 -8 m4 m5 -8 m6 m7 -8 h0 -14 h1 -14"},
		{impl.RuleUniform, "f float 2, m mat2, g float", "f0 -12 f1 -12 m0 m1 -8 m2 m3 -8 g0 -12"},
		{impl.RuleUniform, "m mat3, v vec4 1", "m0 m1 m2 -4 m3 m4 m5 -4 m6 m7 m8 -4 v0 v1 v2 v3"},
	} {
		if got := toldCells(t, fieldsOf(row.fields), row.rule); got != row.want {
			t.Errorf("%s by %d: %s, want %s", row.fields, row.rule, got, row.want)
		}
	}
}

// heldBytes: values that a struct has, and its bytes.
func heldBytes(t *testing.T, rule int, fields string, values [][]uint32, want []byte) {
	t.Helper()
	l := fieldsOf(fields)
	if got := heldPacked(t, l, rule, values); !slices.Equal(got, want) {
		t.Errorf("%s by %d: %v, want %v", fields, rule, got, want)
	}
	if got := heldUnpacked(t, l, rule, want); !sameValues(got, values) {
		t.Errorf("%s by %d: %v, want %v", fields, rule, got, values)
	}
	// Whatever lies in the padding.
	noise := slices.Clone(want)
	for at := range noise {
		if _, _, _, ok := impl.ComponentAt(l, rule, at); !ok {
			noise[at] = byte(201 + at)
		}
	}
	if got := heldUnpacked(t, l, rule, noise); !sameValues(got, values) {
		t.Errorf("%s by %d with bytes in its padding: %v, want %v", fields, rule, got, values)
	}
}

func TestBytesOfStructs(t *testing.T) {
	t.Parallel()
	heldBytes(t, impl.RuleTight, "h half, x int", [][]uint32{{0x0102}, {0x03040506}}, []byte{2, 1, 0, 0, 6, 5, 4, 3})
	heldBytes(t, impl.RuleTight, "x float, h half", [][]uint32{{one}, {0x3c00}}, []byte{0, 0, 128, 63, 0, 60, 0, 0})
	heldBytes(t, impl.RuleTight, "h half 3", [][]uint32{{65535, 0, 256}}, []byte{255, 255, 0, 0, 0, 1})
	heldBytes(t, impl.RuleTight, "x int 2", [][]uint32{{math.MaxUint32, minus}}, []byte{255, 255, 255, 255, 0, 0, 0, 128})
	heldBytes(t, impl.RuleBuffer, "v vec3, h half", [][]uint32{{1, 2, 3}, {4}}, []byte{1, 0, 0, 0, 2, 0, 0, 0, 3, 0, 0, 0, 4, 0, 0, 0})
	heldBytes(t, impl.RuleBuffer, "h half, v vec2", [][]uint32{{0xabcd}, {0xff, 0xff00}}, []byte{0xcd, 0xab, 0, 0, 0, 0, 0, 0, 255, 0, 0, 0, 0, 255, 0, 0})
	heldBytes(t, impl.RuleUniform, "m mat2", [][]uint32{{1, 2, 3, 4}}, []byte{
		1, 0, 0, 0, 2, 0, 0, 0, 0, 0, 0, 0, 0, 0, 0, 0,
		3, 0, 0, 0, 4, 0, 0, 0, 0, 0, 0, 0, 0, 0, 0, 0,
	})
	heldBytes(t, impl.RuleUniform, "h half 2, k half", [][]uint32{{0x0201, 0x0403}, {0x0605}}, []byte{
		1, 2, 0, 0, 0, 0, 0, 0, 0, 0, 0, 0, 0, 0, 0, 0,
		3, 4, 0, 0, 0, 0, 0, 0, 0, 0, 0, 0, 0, 0, 0, 0,
		5, 6, 0, 0, 0, 0, 0, 0, 0, 0, 0, 0, 0, 0, 0, 0,
	})
	heldBytes(t, impl.RuleUniform, "x int, v vec3", [][]uint32{{0x01020304}, {5, 6, 7}}, []byte{
		4, 3, 2, 1, 0, 0, 0, 0, 0, 0, 0, 0, 0, 0, 0, 0,
		5, 0, 0, 0, 6, 0, 0, 0, 7, 0, 0, 0, 0, 0, 0, 0,
	})
}

func noBytes(t *testing.T, fields string, values [][]uint32) {
	t.Helper()
	for _, rule := range allRules {
		if got, ok := impl.PackStruct(fieldsOf(fields), rule, values); ok || len(got) != 0 {
			t.Errorf("%s by %d with %v: %v", fields, rule, values, got)
		}
		heldPacked(t, fieldsOf(fields), rule, values)
	}
}

func TestHalvesAreBelow65536(t *testing.T) {
	t.Parallel()
	for _, word := range []uint32{65536, 65537, 1 << 17, 0x10000 | 0x3c00, one, infinite, minus, math.MaxUint32} {
		noBytes(t, "h half", [][]uint32{{word}})
		noBytes(t, "h half 2", [][]uint32{{0, word}})
		noBytes(t, "h half 2", [][]uint32{{word, 0}})
		noBytes(t, "x int, h half", [][]uint32{{0}, {word}})
		for _, rule := range allRules {
			heldPacked(t, fieldsOf("x int, v vec2"), rule, [][]uint32{{word}, {word, word}})
		}
	}
	for _, word := range []uint32{0, 1, 255, 256, 32767, 32768, 65534, 65535} {
		for _, rule := range allRules {
			if data := heldPacked(t, fieldsOf("h half"), rule, [][]uint32{{word}}); len(data) < 2 || data[0] != byte(word) || data[1] != byte(word/256) {
				t.Errorf("the half %d by %d is packed as %v", word, rule, data)
			}
		}
	}
}

func TestTooFewAndTooManyValues(t *testing.T) {
	t.Parallel()
	for _, kind := range wantTypes {
		for _, array := range []int{0, 1, 2, 64} {
			f := impl.Field{Name: "x", Type: kind, Array: array}
			text := "x " + kind + " " + strconv.Itoa(array)
			n := countOf(f)
			for _, wrong := range []int{0, n - 1, n + 1, 2 * n, n + 1024} {
				noBytes(t, text, [][]uint32{make([]uint32, wrong)})
				noBytes(t, "y int, "+text, [][]uint32{{0}, make([]uint32, wrong)})
				noBytes(t, text+", y int", [][]uint32{make([]uint32, wrong), {0}})
			}
			right := make([]uint32, n)
			noBytes(t, text, [][]uint32{right, {}})
			noBytes(t, text, [][]uint32{right, nil})
			noBytes(t, text, [][]uint32{right, right})
			noBytes(t, text+", y int", [][]uint32{right})
			noBytes(t, text, nil)
			noBytes(t, text, [][]uint32{})
			noBytes(t, text, [][]uint32{nil})
		}
	}
	noBytes(t, "x int, y vec2", [][]uint32{{0, 0}, {0}})
}

func TestTooFewAndTooManyBytes(t *testing.T) {
	t.Parallel()
	for _, rule := range allRules {
		for _, kind := range wantTypes {
			for _, array := range []int{0, 1, 2, 64} {
				l := []impl.Field{{Name: "x", Type: kind, Array: array}, {Name: "h", Type: "half"}}
				size := heldLayout(t, l, rule).Size
				for _, n := range []int{0, 1, 2, size - 16, size - 4, size - 2, size - 1, size + 1, size + 2, size + 4, size + 16, 2 * size} {
					if got, ok := impl.UnpackStruct(l, rule, make([]byte, max(n, 0))); ok || len(got) != 0 {
						t.Errorf("%v by %d of %d bytes: %v", l, rule, n, got)
					}
				}
				if got := heldUnpacked(t, l, rule, make([]byte, size)); len(got) != 2 {
					t.Errorf("%v by %d: %v", l, rule, got)
				}
			}
		}
		for _, data := range [][]byte{nil, {}} {
			heldUnpacked(t, fieldsOf("x int"), rule, data)
		}
	}
}
