package tests

import (
	"encoding/binary"
	"fmt"
	"math"
	"math/big"
	"slices"
	"strconv"

	"loop.example/g00053/impl"
)

// Textures another way: colors are rows of four numbers, parts of short colors are
// howOften and laid down as digits to the base 2, a texture is a list of pages with a
// color for each place, edges are one round of places that goes on without end, and
// what lies between is reckoned by the machine's floats, first along and then across
// (all of them are exact, since they are divided by powers of two alone).

func fourOf(c impl.Color) []int { return []int{c.R, c.G, c.B, c.A} }

func colorOf(parts ...int) impl.Color {
	return impl.Color{R: parts[0], G: parts[1], B: parts[2], A: parts[3]}
}

func wantColor(c impl.Color) bool {
	return slices.Min(fourOf(c)) >= 0 && slices.Max(fourOf(c)) <= 255
}

// howOften: how many numbers from 1 on, each so many times, are no more than a number.
func howOften(times, number int) int {
	n := 0
	for (n+1)*times <= number {
		n++
	}
	return n
}

func shortPart(part, most int) int { return howOften(255, part*most+127) }

func wholePart(x, most int) int { return howOften(most, 255*x+(most-1)/2) }

// digitsOf: a number by its digits to the base 2.
func digitsOf(text string) int {
	n, err := strconv.ParseUint(text, 2, 64)
	if err != nil {
		panic(err)
	}
	return int(n)
}

func wantPack(format int, c impl.Color) []byte {
	if !wantColor(c) {
		return nil
	}
	switch format {
	case 1:
		return []byte{byte(c.R)}
	case 2:
		var data []byte
		for _, part := range fourOf(c) {
			data = append(data, byte(part))
		}
		return data
	case 3:
		text := fmt.Sprintf("%05b%06b%05b", shortPart(c.R, 31), shortPart(c.G, 63), shortPart(c.B, 31))
		return binary.LittleEndian.AppendUint16(nil, uint16(digitsOf(text)))
	}
	return nil
}

// bytesEach: of a format; none of one that is none.
func bytesEach(format int) int { return len(wantPack(format, impl.Color{})) }

func wantUnpack(format int, data []byte) (impl.Color, bool) {
	if bytesEach(format) == 0 || len(data) != bytesEach(format) {
		return impl.Color{}, false
	}
	switch format {
	case 1:
		grey := int(data[0])
		return colorOf(grey, grey, grey, 255), true
	case 2:
		return colorOf(int(data[0]), int(data[1]), int(data[2]), int(data[3])), true
	}
	text := fmt.Sprintf("%016b", binary.LittleEndian.Uint16(data))
	return colorOf(wholePart(digitsOf(text[:5]), 31), wholePart(digitsOf(text[5:11]), 63), wholePart(digitsOf(text[11:]), 31), 255), true
}

// page: the colors of one level.
type page struct {
	wide, high int
	colors     map[[2]int]impl.Color
}

// shapesOf: the sides of all levels; none of sides that are none.
func shapesOf(wide, high int) [][2]int {
	if !wantPower(wide, 1, 16) || !wantPower(high, 1, 16) {
		return nil
	}
	shapes := [][2]int{{wide, high}}
	if wide == 1 && high == 1 {
		return shapes
	}
	return append(shapes, shapesOf((wide+1)/2, (high+1)/2)...)
}

// pagesOf: of a good texture; none otherwise.
func pagesOf(t impl.Texture) []page {
	shapes := shapesOf(t.Wide, t.High)
	if len(shapes) != len(t.Levels) || bytesEach(t.Format) == 0 {
		return nil
	}
	var pages []page
	for number, shape := range shapes {
		p := page{shape[0], shape[1], map[[2]int]impl.Color{}}
		left := t.Levels[number]
		for y := range p.high {
			for x := range p.wide {
				if len(left) < bytesEach(t.Format) {
					return nil
				}
				p.colors[[2]int{x, y}], _ = wantUnpack(t.Format, left[:bytesEach(t.Format)])
				left = left[bytesEach(t.Format):]
			}
		}
		if len(left) > 0 {
			return nil
		}
		pages = append(pages, p)
	}
	return pages
}

func wantTexture(t impl.Texture) bool { return len(pagesOf(t)) > 0 }

// nearest: half up.
func nearest(x float64) int { return int(math.Floor(x + 0.5)) }

// meanOf: of each part.
func meanOf(colors []impl.Color) impl.Color {
	parts := make([]int, 4)
	for at := range parts {
		sum := 0.0
		for _, c := range colors {
			sum += float64(fourOf(c)[at])
		}
		parts[at] = nearest(sum / float64(len(colors)))
	}
	return colorOf(parts...)
}

func wantMips(wide, high, format int, colors []impl.Color) (impl.Texture, bool) {
	shapes := shapesOf(wide, high)
	wrong := func(c impl.Color) bool { return !wantColor(c) }
	if len(shapes) == 0 || bytesEach(format) == 0 || len(colors) != wide*high || slices.ContainsFunc(colors, wrong) {
		return impl.Texture{}, false
	}
	t := impl.Texture{Wide: wide, High: high, Format: format}
	ahead := map[[2]int][]impl.Color{} // the colors that become the one at a place
	for at, c := range colors {
		ahead[[2]int{at % wide, at / wide}] = []impl.Color{c}
	}
	for _, shape := range shapes {
		var data []byte
		next := map[[2]int][]impl.Color{}
		for y := range shape[1] {
			for x := range shape[0] {
				packed := wantPack(format, meanOf(ahead[[2]int{x, y}]))
				c, _ := wantUnpack(format, packed)
				data = append(data, packed...)
				next[[2]int{x / 2, y / 2}] = append(next[[2]int{x / 2, y / 2}], c)
			}
		}
		t.Levels = append(t.Levels, data)
		ahead = next
	}
	return t, true
}

// roundOf: the places that are read one behind the other, from 0 on, by an edge that
// goes round.
func roundOf(side, edge int) []int {
	round := upTo(side)
	if edge == 3 {
		back := upTo(side)
		slices.Reverse(back)
		round = append(round, back...)
	}
	return round
}

// alongEdge: the place that is read, and whether there is one.
func alongEdge(at, side, edge int) (int, bool) {
	switch {
	case at >= 0 && at < side:
		return at, true
	case edge == 4:
		return 0, false
	case edge == 1 && at < 0:
		return 0, true
	case edge == 1:
		return side - 1, true
	}
	round := roundOf(side, edge)
	rest := new(big.Int).Mod(big.NewInt(int64(at)), big.NewInt(int64(len(round))))
	return round[rest.Int64()], true
}

func (p page) color(x, y, edge int, border impl.Color) impl.Color {
	x, inX := alongEdge(x, p.wide, edge)
	y, inY := alongEdge(y, p.high, edge)
	if !inX || !inY {
		return border
	}
	return p.colors[[2]int{x, y}]
}

func wantEdge(edge int, border impl.Color) bool {
	return slices.Contains([]int{1, 2, 3}, edge) || edge == 4 && wantColor(border)
}

func wantFetch(t impl.Texture, level, x, y, edge int, border impl.Color) (impl.Color, bool) {
	pages := pagesOf(t)
	if level < 0 || level >= len(pages) || !wantEdge(edge, border) {
		return impl.Color{}, false
	}
	return pages[level].color(x, y, edge, border), true
}

// between: from one number to another one, by a part from 0 to 1.
func between(from, to, part float64) float64 { return from*(1-part) + to*part }

// sampled: each part of what lies between four colors.
func (p page) sampled(u, v, edge int, border impl.Color) impl.Color {
	toX, toY := (float64(u)-128)/256, (float64(v)-128)/256
	x, y := math.Floor(toX), math.Floor(toY)
	var around [2][2][]int
	for down := range 2 {
		for right := range 2 {
			around[down][right] = fourOf(p.color(int(x)+right, int(y)+down, edge, border))
		}
	}
	parts := make([]int, 4)
	for at := range parts {
		var rows [2]float64
		for down, row := range around {
			rows[down] = between(float64(row[0][at]), float64(row[1][at]), toX-x)
		}
		parts[at] = nearest(between(rows[0], rows[1], toY-y))
	}
	return colorOf(parts...)
}

func wantPoint(u, v int) bool {
	return math.Abs(float64(u)) <= 100000 && math.Abs(float64(v)) <= 100000
}

func wantSample(t impl.Texture, level, u, v, edge int, border impl.Color) (impl.Color, bool) {
	if _, ok := wantFetch(t, level, 0, 0, edge, border); !ok || !wantPoint(u, v) {
		return impl.Color{}, false
	}
	return pagesOf(t)[level].sampled(u, v, edge, border), true
}

func wantBetween(t impl.Texture, lod, u, v, edge int, border impl.Color) (impl.Color, bool) {
	pages := pagesOf(t)
	if lod < 0 || float64(lod)/256 > float64(len(pages)-1) || !wantPoint(u, v) || !wantEdge(edge, border) {
		return impl.Color{}, false
	}
	deep := func(level int) []int {
		wide := math.Exp2(float64(level))
		return fourOf(pages[level].sampled(int(math.Floor(float64(u)/wide)), int(math.Floor(float64(v)/wide)), edge, border))
	}
	whole := math.Floor(float64(lod) / 256)
	part := float64(lod)/256 - whole
	near := deep(int(whole))
	if part == 0 {
		return colorOf(near...), true
	}
	far := deep(int(whole) + 1)
	parts := make([]int, 4)
	for at := range parts {
		parts[at] = nearest(between(float64(near[at]), float64(far[at]), part))
	}
	return colorOf(parts...), true
}
