package tests

import (
	"go/ast"
	"go/parser"
	"go/token"
	"testing"
)

// How chapter 14 is built: what is ready stands in a heap of a generic type, and the
// one that chooses from it is a method value.

func parsedSchedules(t *testing.T) *ast.File {
	t.Helper()
	file, err := parser.ParseFile(token.NewFileSet(), "../impl/l14_schedule.go", nil, 0)
	if err != nil {
		t.Fatal(err)
	}
	return file
}

// genericTypes: the names of a file's types that have parameters.
func genericTypes(file *ast.File) map[string]bool {
	names := map[string]bool{}
	ast.Inspect(file, func(n ast.Node) bool {
		if spec, ok := n.(*ast.TypeSpec); ok && spec.TypeParams != nil {
			names[spec.Name.Name] = true
		}
		return true
	})
	return names
}

func TestHeapIsOfAGenericType(t *testing.T) {
	t.Parallel()
	file := parsedSchedules(t)
	generic := genericTypes(file)
	kinds := map[string]bool{}
	for _, d := range file.Decls {
		if f, ok := d.(*ast.FuncDecl); ok && f.Recv != nil {
			continue // a method of the type itself names its parameter
		}
		ast.Inspect(d, func(n ast.Node) bool {
			if of, ok := n.(*ast.IndexExpr); ok {
				name, isName := of.X.(*ast.Ident)
				kind, isKind := of.Index.(*ast.Ident)
				if isName && isKind && generic[name.Name] {
					kinds[kind.Name] = true
				}
			}
			return true
		})
	}
	if len(generic) != 1 || len(kinds) < 2 {
		t.Errorf("generic types %v are of kinds %v", generic, kinds)
	}
}

func TestTheOneThatChoosesIsAMethodValue(t *testing.T) {
	t.Parallel()
	file := parsedSchedules(t)
	methods, types := map[string]bool{}, map[string]bool{}
	called := map[ast.Node]bool{}
	ast.Inspect(file, func(n ast.Node) bool {
		switch x := n.(type) {
		case *ast.FuncDecl:
			if x.Recv != nil {
				methods[x.Name.Name] = true
			}
		case *ast.TypeSpec:
			types[x.Name.Name] = true
		case *ast.CallExpr:
			called[x.Fun] = true
		}
		return true
	})
	values := 0
	ast.Inspect(file, func(n ast.Node) bool {
		assigned, ok := n.(*ast.AssignStmt)
		if !ok || len(assigned.Rhs) != 1 || called[assigned.Rhs[0]] {
			return true
		}
		if s, ok := assigned.Rhs[0].(*ast.SelectorExpr); ok && methods[s.Sel.Name] {
			if of, ok := s.X.(*ast.Ident); ok && !types[of.Name] {
				values++
			}
		}
		return true
	})
	if values == 0 {
		t.Errorf("no method value is laid down")
	}
}
