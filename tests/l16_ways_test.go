package tests

import (
	"go/ast"
	"slices"
	"testing"
)

// How chapter 16 is built: formats stand behind an interface, and are asserted where
// one is more than that.

// methodsOf: the names of an interface's methods, with those that it embeds.
func (m layerFile) methodsOf(name string) []string {
	var names []string
	if m.interfaces[name] == nil {
		return nil
	}
	for _, field := range m.interfaces[name].Methods.List {
		if part, ok := field.Type.(*ast.Ident); ok {
			names = append(names, m.methodsOf(part.Name)...)
		}
		for _, method := range field.Names {
			names = append(names, method.Name)
		}
	}
	return names
}

// standBehind: the types that have all methods of an interface.
func (m layerFile) standBehind(name string) []string {
	var types []string
	for of := range m.structs {
		if !slices.ContainsFunc(m.methodsOf(name), func(method string) bool { return !m.has(of, method) }) {
			types = append(types, of)
		}
	}
	slices.Sort(types)
	return types
}

// assertedIn: what is asserted in a function, where the answer is used only if it
// holds.
func assertedIn(f *ast.FuncDecl) []string {
	var names []string
	ast.Inspect(f, func(n ast.Node) bool {
		branch, ok := n.(*ast.IfStmt)
		if !ok {
			return true
		}
		init, isInit := branch.Init.(*ast.AssignStmt)
		cond, isName := branch.Cond.(*ast.Ident)
		if !isInit || !isName || len(init.Lhs) != 2 || len(init.Rhs) != 1 || branch.Else != nil {
			return true
		}
		holds, _ := init.Lhs[1].(*ast.Ident)
		if asserted, ok := init.Rhs[0].(*ast.TypeAssertExpr); ok && holds.Name == cond.Name {
			if to, ok := asserted.Type.(*ast.Ident); ok {
				names = append(names, to.Name)
			}
		}
		return true
	})
	return names
}

func TestFormatsAreAssertedWhereOneIsMore(t *testing.T) {
	t.Parallel()
	m := parsedLayer(t, "l16_texture.go")
	formats := m.standBehind("format")
	if len(m.methodsOf("format")) < 3 || len(formats) != 3 {
		t.Errorf("behind the interface with %v stand %v", m.methodsOf("format"), formats)
	}
	var more []string
	asserts := 0
	for _, d := range m.Decls {
		f, ok := d.(*ast.FuncDecl)
		if !ok {
			continue
		}
		ast.Inspect(f, func(n ast.Node) bool {
			if _, ok := n.(*ast.TypeAssertExpr); ok {
				asserts++
			}
			return true
		})
		for _, to := range assertedIn(f) {
			if f.Name.IsExported() {
				t.Errorf("%s asserts %s", f.Name.Name, to)
			}
			more = append(more, to)
		}
	}
	if len(more) == 0 || len(more) != asserts {
		t.Fatalf("%d assertions, of which %v are used where they hold", asserts, more)
	}
	for _, to := range more {
		some := m.standBehind(to)
		if len(m.methodsOf(to)) == 0 || len(some) == 0 || len(some) >= len(formats) {
			t.Errorf("asserted is %s, with %v, behind which stand %v", to, m.methodsOf(to), some)
		}
	}
}
