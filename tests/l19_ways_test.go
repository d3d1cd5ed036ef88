package tests

import (
	"go/ast"
	"go/token"
	"testing"
)

// How chapter 19 is built: marks are channels that are closed when they are signalled,
// and who waits receives; what is done is told over a channel by one that closes it in
// the end, and another one ranges over it.

// funcsOf: the functions and methods of a layer, by their names.
func (m layerFile) funcsOf() map[string]*ast.FuncDecl {
	all := map[string]*ast.FuncDecl{}
	for _, d := range m.Decls {
		if f, ok := d.(*ast.FuncDecl); ok {
			all[f.Name.Name] = f
		}
	}
	return all
}

// markFields: the fields that are several channels on which nothing can be told.
func (m layerFile) markFields() []string {
	var names []string
	for _, s := range m.structs {
		for _, field := range s.Fields.List {
			row, ok := field.Type.(*ast.ArrayType)
			if !ok {
				continue
			}
			if of, ok := row.Elt.(*ast.ChanType); ok {
				if told, ok := of.Value.(*ast.StructType); ok && len(told.Fields.List) == 0 {
					names = append(names, field.Names[0].Name)
				}
			}
		}
	}
	return names
}

// names: whether something with this name stands within.
func names(within ast.Node, name string) bool {
	found := false
	ast.Inspect(within, func(n ast.Node) bool {
		if x, ok := n.(*ast.Ident); ok && x.Name == name {
			found = true
		}
		return true
	})
	return found
}

// closedIn: what is closed within a function.
func closedIn(f *ast.FuncDecl) []ast.Expr {
	var closed []ast.Expr
	ast.Inspect(f, func(n ast.Node) bool {
		if call, ok := n.(*ast.CallExpr); ok {
			if name, ok := call.Fun.(*ast.Ident); ok && name.Name == "close" {
				closed = append(closed, call.Args[0])
			}
		}
		return true
	})
	return closed
}

// receivesIn: whether something is received within a function, if it can be at once.
func receivesIn(f *ast.FuncDecl) bool {
	receives, otherwise := false, false
	ast.Inspect(f, func(n ast.Node) bool {
		if one, ok := n.(*ast.CommClause); ok {
			if one.Comm == nil {
				otherwise = true
			} else if s, ok := one.Comm.(*ast.ExprStmt); ok {
				x, ok := s.X.(*ast.UnaryExpr)
				receives = receives || ok && x.Op == token.ARROW
			}
		}
		return true
	})
	return receives && otherwise
}

func TestMarksAreClosedChannels(t *testing.T) {
	t.Parallel()
	m := parsedLayer(t, "l19_commands.go")
	fields := m.markFields()
	if len(fields) != 1 {
		t.Fatalf("the marks are %v", fields)
	}
	closes, receives := 0, 0
	for name, f := range m.funcsOf() {
		for _, closed := range closedIn(f) {
			if names(closed, fields[0]) {
				closes++
				if !names(f, "CmdSignal") {
					t.Errorf("%s closes a mark that is not signalled", name)
				}
			}
		}
		if !names(f, "CmdWait") || !names(f, fields[0]) {
			continue
		}
		for other, g := range m.funcsOf() {
			if other != name && names(f, other) && receivesIn(g) {
				receives++
			}
		}
	}
	if closes != 1 || receives == 0 {
		t.Errorf("marks are closed by %d functions, %d ask them", closes, receives)
	}
}

func TestWhatIsDoneIsToldOverAChannel(t *testing.T) {
	t.Parallel()
	m := parsedLayer(t, "l19_commands.go")
	started := 0
	for name, f := range m.funcsOf() {
		ast.Inspect(f, func(n ast.Node) bool {
			one, ok := n.(*ast.GoStmt)
			if !ok {
				return true
			}
			started++
			called, ok := one.Call.Fun.(*ast.SelectorExpr)
			told, is := one.Call.Args[0].(*ast.Ident)
			if !ok || !is || m.funcsOf()[called.Sel.Name] == nil {
				t.Fatalf("%s starts something else", name)
			}
			if !rangesOver(f, told.Name) {
				t.Errorf("%s does not range over %s", name, told.Name)
			}
			tells(t, m.funcsOf()[called.Sel.Name])
			return true
		})
	}
	if started != 1 {
		t.Errorf("%d goroutines are started", started)
	}
}

func rangesOver(f *ast.FuncDecl, name string) bool {
	ranges := false
	ast.Inspect(f, func(n ast.Node) bool {
		if loop, ok := n.(*ast.RangeStmt); ok {
			x, ok := loop.X.(*ast.Ident)
			ranges = ranges || ok && x.Name == name
		}
		return true
	})
	return ranges
}

// tells: what runs on its own sends on the channel that it was given, and closes it
// whatever happens.
func tells(t *testing.T, f *ast.FuncDecl) {
	t.Helper()
	channel := f.Type.Params.List[0].Names[0].Name
	last, ok := f.Body.List[0].(*ast.DeferStmt)
	if !ok || !names(last, "close") || !names(last, channel) {
		t.Errorf("%s does not begin with what closes %s", f.Name.Name, channel)
	}
	sends := 0
	ast.Inspect(f, func(n ast.Node) bool {
		if s, ok := n.(*ast.SendStmt); ok && names(s.Chan, channel) {
			sends++
		}
		return true
	})
	if sends == 0 {
		t.Errorf("%s sends nothing on %s", f.Name.Name, channel)
	}
}
