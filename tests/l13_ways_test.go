package tests

import (
	"go/ast"
	"go/parser"
	"go/token"
	"slices"
	"testing"
)

// How chapter 13 is built: sets are made and asked by generic functions, and rows
// are cut from one list by a third index.

func parsedRegisters(t *testing.T) *ast.File {
	t.Helper()
	file, err := parser.ParseFile(token.NewFileSet(), "../impl/l13_registers.go", nil, 0)
	if err != nil {
		t.Fatal(err)
	}
	return file
}

// calledIn: the names that a piece calls, of packages with the package's name ahead.
func calledIn(piece ast.Node) []string {
	var names []string
	ast.Inspect(piece, func(n ast.Node) bool {
		call, ok := n.(*ast.CallExpr)
		if !ok {
			return true
		}
		switch f := call.Fun.(type) {
		case *ast.Ident:
			names = append(names, f.Name)
		case *ast.SelectorExpr:
			if of, ok := f.X.(*ast.Ident); ok {
				names = append(names, of.Name+"."+f.Sel.Name)
			}
		}
		return true
	})
	return names
}

func TestSetsByGenericFunctions(t *testing.T) {
	t.Parallel()
	file := parsedRegisters(t)
	var generic, plain []ast.Node
	called := map[string]int{}
	var names []string
	for _, d := range file.Decls {
		f, ok := d.(*ast.FuncDecl)
		if !ok {
			continue
		}
		if f.Type.TypeParams == nil {
			plain = append(plain, f)
			for _, name := range calledIn(f) {
				called[name]++
			}
			continue
		}
		generic = append(generic, f)
		names = append(names, f.Name.Name)
	}
	if len(generic) < 4 {
		t.Errorf("there are %d generic functions", len(generic))
	}
	for _, name := range names {
		if called[name] == 0 {
			t.Errorf("nothing calls %s", name)
		}
	}
	for _, f := range plain {
		for _, name := range calledIn(f) {
			if slices.Contains([]string{"slices.Sort", "slices.Compact", "slices.BinarySearch", "slices.Concat", "slices.Max"}, name) {
				t.Errorf("%s makes or asks a set by %s itself", f.(*ast.FuncDecl).Name.Name, name)
			}
		}
	}
}

func TestRowsAreCutByAThirdIndex(t *testing.T) {
	t.Parallel()
	file := parsedRegisters(t)
	cut := 0
	ast.Inspect(file, func(n ast.Node) bool {
		if s, ok := n.(*ast.SliceExpr); ok && s.Slice3 {
			cut++
		}
		return true
	})
	if cut == 0 {
		t.Errorf("no row is cut by a third index")
	}
	// what is told by rows comes from where they are cut
	for _, d := range file.Decls {
		f, ok := d.(*ast.FuncDecl)
		if ok && slices.Contains([]string{"living", "clashes"}, f.Name.Name) && !slices.Contains(calledIn(f), "turned") {
			t.Errorf("%s has no rows that are cut", f.Name.Name)
		}
	}
}
