package tests

import (
	"go/ast"
	"go/parser"
	"go/token"
	"testing"
)

// How chapter 12 is built: the passes of Improve are method expressions in a row, and
// several sets are joined by variadic arguments.

func parsedPasses(t *testing.T) *ast.File {
	t.Helper()
	file, err := parser.ParseFile(token.NewFileSet(), "../impl/l12_passes.go", nil, 0)
	if err != nil {
		t.Fatal(err)
	}
	return file
}

// methodsOf: the names of a file's methods, by the type that has them.
func methodsOf(file *ast.File) map[string]map[string]bool {
	methods := map[string]map[string]bool{}
	for _, d := range file.Decls {
		f, ok := d.(*ast.FuncDecl)
		if !ok || f.Recv == nil {
			continue
		}
		if of, ok := f.Recv.List[0].Type.(*ast.Ident); ok {
			if methods[of.Name] == nil {
				methods[of.Name] = map[string]bool{}
			}
			methods[of.Name][f.Name.Name] = true
		}
	}
	return methods
}

func TestPassesAreMethodExpressionsInARow(t *testing.T) {
	t.Parallel()
	file := parsedPasses(t)
	methods := methodsOf(file)
	most := 0
	ast.Inspect(file, func(n ast.Node) bool {
		row, ok := n.(*ast.CompositeLit)
		if !ok {
			return true
		}
		expressions := 0
		for _, e := range row.Elts {
			if s, ok := e.(*ast.SelectorExpr); ok {
				if of, ok := s.X.(*ast.Ident); ok && methods[of.Name][s.Sel.Name] {
					expressions++
				}
			}
		}
		most = max(most, expressions)
		return true
	})
	if most != 5 {
		t.Errorf("%d method expressions in a row", most)
	}
}

func TestSetsAreJoinedByVariadicArguments(t *testing.T) {
	t.Parallel()
	file := parsedPasses(t)
	variadic := map[string]bool{}
	ast.Inspect(file, func(n ast.Node) bool {
		if f, ok := n.(*ast.FuncDecl); ok && len(f.Type.Params.List) > 0 {
			_, variadic[f.Name.Name] = f.Type.Params.List[len(f.Type.Params.List)-1].Type.(*ast.Ellipsis)
		}
		return true
	})
	several := 0
	ast.Inspect(file, func(n ast.Node) bool {
		call, ok := n.(*ast.CallExpr)
		if !ok || len(call.Args) < 2 {
			return true
		}
		switch f := call.Fun.(type) {
		case *ast.Ident:
			if variadic[f.Name] {
				several++
			}
		case *ast.SelectorExpr:
			if variadic[f.Sel.Name] {
				several++
			}
		}
		return true
	})
	if several < 2 {
		t.Errorf("several sets are joined %d times", several)
	}
}
