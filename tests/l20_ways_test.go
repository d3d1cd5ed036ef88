package tests

import (
	"go/ast"
	"testing"
)

// How chapter 20 is built: holds are moved by copy, within their list; what was put out
// is cleared.

// builtIn: the calls of a function of the language within another one.
func builtIn(f *ast.FuncDecl, name string) []*ast.CallExpr {
	var calls []*ast.CallExpr
	ast.Inspect(f, func(n ast.Node) bool {
		if call, ok := n.(*ast.CallExpr); ok {
			if called, ok := call.Fun.(*ast.Ident); ok && called.Name == name {
				calls = append(calls, call)
			}
		}
		return true
	})
	return calls
}

// reachedBy: the functions of a layer that one of them leads to, with itself.
func (m layerFile) reachedBy(name string) map[string]bool {
	reached := map[string]bool{}
	all := m.funcsOf()
	var goOn func(name string)
	goOn = func(name string) {
		if reached[name] || all[name] == nil {
			return
		}
		reached[name] = true
		for other := range all {
			if names(all[name].Body, other) {
				goOn(other)
			}
		}
	}
	goOn(name)
	return reached
}

// pieceOf: the name of the list of which an expression is a piece.
func pieceOf(x ast.Expr) string {
	if piece, ok := x.(*ast.SliceExpr); ok {
		if list, ok := piece.X.(*ast.Ident); ok {
			return list.Name
		}
	}
	return ""
}

// holdLists: the parameters of a function that are lists of holds.
func holdLists(f *ast.FuncDecl) map[string]bool {
	lists := map[string]bool{}
	for _, field := range f.Type.Params.List {
		if list, ok := field.Type.(*ast.ArrayType); ok && names(list.Elt, "Hold") {
			for _, name := range field.Names {
				lists[name.Name] = true
			}
		}
	}
	return lists
}

func TestHoldsAreMovedByCopy(t *testing.T) {
	t.Parallel()
	m := parsedLayer(t, "l20_pools.go")
	reached := m.reachedBy("PoolDo")
	up, down := 0, 0
	for name, f := range m.funcsOf() {
		for _, call := range builtIn(f, "copy") {
			to, from := pieceOf(call.Args[0]), pieceOf(call.Args[1])
			if to == "" || to != from || !holdLists(f)[to] || !reached[name] {
				t.Errorf("%s copies %s to %s", name, from, to)
				continue
			}
			if names(f, "append") {
				up++
			} else {
				down++
			}
		}
	}
	if up != 1 || down != 1 {
		t.Errorf("holds are moved up by %d functions, down by %d", up, down)
	}
}

func TestWhatWasPutOutIsCleared(t *testing.T) {
	t.Parallel()
	m := parsedLayer(t, "l20_pools.go")
	cleared, putOut := 0, 0
	for name, f := range m.funcsOf() {
		for _, call := range builtIn(f, "clear") {
			cleared++
			list := pieceOf(call.Args[0])
			if !holdLists(f)[list] || len(builtIn(f, "copy")) != 1 || pieceOf(builtIn(f, "copy")[0].Args[0]) != list {
				t.Errorf("%s clears something else", name)
			}
			for other, g := range m.funcsOf() {
				if tellsOut(g) && m.reachedBy("PoolDo")[other] && m.reachedBy(other)[name] {
					putOut++
				}
			}
		}
	}
	if cleared != 1 || putOut != 1 {
		t.Errorf("%d lists are cleared, %d functions that put out lead there", cleared, putOut)
	}
}

// tellsOut: whether a function adds to the Ids that were put out.
func tellsOut(f *ast.FuncDecl) bool {
	for _, call := range builtIn(f, "append") {
		if list, ok := call.Args[0].(*ast.SelectorExpr); ok && list.Sel.Name == "out" {
			return true
		}
	}
	return false
}
