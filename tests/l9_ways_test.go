package tests

import (
	"go/ast"
	"go/parser"
	"go/token"
	"testing"
)

// How chapter 9 is built: statements are closures, and a loop is left by its
// label.

func TestStatementsAreClosures(t *testing.T) {
	t.Parallel()
	file, err := parser.ParseFile(token.NewFileSet(), "../impl/l9_meaning.go", nil, 0)
	if err != nil {
		t.Fatal(err)
	}
	made, left := 0, 0
	labels := map[string]bool{}
	ast.Inspect(file, func(n ast.Node) bool {
		switch x := n.(type) {
		case *ast.FuncDecl:
			if answersStatement(x.Type) && returnsLiteral(x.Body) {
				made++
			}
		case *ast.LabeledStmt:
			switch x.Stmt.(type) {
			case *ast.ForStmt, *ast.RangeStmt:
				labels[x.Label.Name] = true
			}
		case *ast.BranchStmt:
			if x.Tok == token.BREAK && x.Label != nil && labels[x.Label.Name] {
				left++
			}
		}
		return true
	})
	if made < 4 { // a name that is given a value, a store, a choice and a loop
		t.Errorf("only %d functions answer a statement as a closure", made)
	}
	if left == 0 {
		t.Error("no loop is left by its label")
	}
}

func answersStatement(f *ast.FuncType) bool {
	if f.Results == nil || len(f.Results.List) != 1 {
		return false
	}
	name, ok := f.Results.List[0].Type.(*ast.Ident)
	return ok && name.Name == "statement"
}

func returnsLiteral(body *ast.BlockStmt) bool {
	found := false
	ast.Inspect(body, func(n ast.Node) bool {
		if x, ok := n.(*ast.ReturnStmt); ok && len(x.Results) == 1 {
			_, literal := x.Results[0].(*ast.FuncLit)
			found = found || literal
		}
		return true
	})
	return found
}
