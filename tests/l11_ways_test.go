package tests

import (
	"go/ast"
	"go/parser"
	"go/token"
	"testing"
)

// How chapter 11 is built: a lane's registers are a fixed row, an array; which
// lanes are on is an array, too, and such are compared; lanes are gone through by
// a range over an integer.

// arraysOf: the names of array types and of fields that are arrays.
func arraysOf(t *testing.T, path string) (map[string]bool, *ast.File) {
	t.Helper()
	file, err := parser.ParseFile(token.NewFileSet(), path, nil, 0)
	if err != nil {
		t.Fatal(err)
	}
	isArray := func(e ast.Expr) bool {
		a, ok := e.(*ast.ArrayType)
		return ok && a.Len != nil
	}
	arrays := map[string]bool{}
	ast.Inspect(file, func(n ast.Node) bool {
		switch x := n.(type) {
		case *ast.TypeSpec:
			arrays[x.Name.Name] = isArray(x.Type)
		case *ast.Field:
			for _, name := range x.Names {
				arrays[name.Name] = arrays[name.Name] || isArray(x.Type)
			}
		}
		return true
	})
	return arrays, file
}

func TestLanesRegistersAreArrays(t *testing.T) {
	t.Parallel()
	if arrays, _ := arraysOf(t, "../impl/l10_code.go"); !arrays["regs"] {
		t.Error("registers are no array")
	}
	arrays, file := arraysOf(t, "../impl/l11_warps.go")
	if !arrays["lanes"] {
		t.Error("lanes are no array")
	}
	compared := 0
	ast.Inspect(file, func(n ast.Node) bool {
		b, ok := n.(*ast.BinaryExpr)
		if !ok || b.Op != token.EQL {
			return true
		}
		if literal, ok := b.Y.(*ast.CompositeLit); ok {
			if name, ok := literal.Type.(*ast.Ident); ok && arrays[name.Name] {
				compared++
			}
		}
		return true
	})
	if compared == 0 {
		t.Error("no sets of lanes are compared as arrays")
	}
}

func TestLanesByRangeOverAnInteger(t *testing.T) {
	t.Parallel()
	_, file := arraysOf(t, "../impl/l11_warps.go")
	ranges := 0
	ast.Inspect(file, func(n ast.Node) bool {
		if r, ok := n.(*ast.RangeStmt); ok && (hasName(r.X, "MaxSize") || hasName(r.X, "Size")) {
			ranges++
		}
		return true
	})
	if ranges < 2 {
		t.Errorf("lanes are gone through by %d ranges over an integer", ranges)
	}
}
