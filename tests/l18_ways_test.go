package tests

import (
	"go/ast"
	"slices"
	"testing"
)

// How chapter 18 is built: leaves and what has twigs stand behind an interface, and are
// told apart by a type switch.

// switchedIn: the types that each type switch of a function tells apart, and how many
// of these have a case for all others.
func switchedIn(f *ast.FuncDecl) ([][]string, int) {
	var all [][]string
	others := 0
	ast.Inspect(f, func(n ast.Node) bool {
		x, ok := n.(*ast.TypeSwitchStmt)
		if !ok {
			return true
		}
		var types []string
		for _, s := range x.Body.List {
			one := s.(*ast.CaseClause)
			if one.List == nil {
				others++
			}
			for _, e := range one.List {
				if name, ok := e.(*ast.Ident); ok {
					types = append(types, name.Name)
				}
			}
		}
		slices.Sort(types)
		all = append(all, types)
		return true
	})
	return all, others
}

func TestLeavesAreToldApartByATypeSwitch(t *testing.T) {
	t.Parallel()
	m := parsedLayer(t, "l18_rays.go")
	if len(m.interfaces) != 1 {
		t.Fatalf("%d interfaces", len(m.interfaces))
	}
	var behind []string
	called := map[string]bool{}
	for name := range m.interfaces {
		behind = m.standBehind(name)
		if len(behind) != 2 || len(m.methodsOf(name)) == 0 {
			t.Errorf("behind %s stand %v", name, behind)
		}
		ast.Inspect(m.File, func(n ast.Node) bool {
			if call, ok := n.(*ast.CallExpr); ok {
				if s, ok := call.Fun.(*ast.SelectorExpr); ok && slices.Contains(m.methodsOf(name), s.Sel.Name) {
					called[s.Sel.Name] = true
				}
			}
			return true
		})
		if len(called) != len(m.methodsOf(name)) {
			t.Errorf("of the methods of %s are called %v", name, called)
		}
	}
	switches := 0
	for _, d := range m.Decls {
		f, ok := d.(*ast.FuncDecl)
		if !ok {
			continue
		}
		all, others := switchedIn(f)
		for _, types := range all {
			switches++
			if !slices.Equal(types, behind) || others > 0 || f.Name.IsExported() {
				t.Errorf("%s tells %v apart, not %v", f.Name.Name, types, behind)
			}
		}
	}
	if switches == 0 {
		t.Error("no type switch tells them apart")
	}
}
