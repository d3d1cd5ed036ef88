package tests

import (
	"go/ast"
	"go/parser"
	"go/token"
	"slices"
	"testing"
)

// How chapter 10 is built: ops are counted by iota, the fields that an op names
// are told by a switch over ops that falls through, and the names of ops are in a
// variable that start-up fills by a call.

func TestOpsAreCountedByIota(t *testing.T) {
	t.Parallel()
	file := parsedCode(t)
	counted := []string{}
	for _, d := range file.Decls {
		group, ok := d.(*ast.GenDecl)
		if !ok || group.Tok != token.CONST || !hasName(group, "iota") {
			continue
		}
		for _, s := range group.Specs {
			for _, name := range s.(*ast.ValueSpec).Names {
				if name.IsExported() {
					counted = append(counted, name.Name)
				}
			}
		}
	}
	if !slices.Equal(counted, []string{"IConst", "IMove", "IOp", "ICall", "IIn", "ILoad", "IStore", "IJump", "IZero", "IBarrier", "IEnd", "INot", "INeg"}) {
		t.Errorf("counted by iota: %v", counted)
	}
}

func TestFieldsByASwitchThatFallsThrough(t *testing.T) {
	t.Parallel()
	falls := 0
	ast.Inspect(parsedCode(t), func(n ast.Node) bool {
		s, ok := n.(*ast.SwitchStmt)
		if !ok || !hasName(s, "ICall") {
			return true
		}
		for _, c := range s.Body.List {
			body := c.(*ast.CaseClause).Body
			if len(body) == 0 {
				continue
			}
			if b, ok := body[len(body)-1].(*ast.BranchStmt); ok && b.Tok == token.FALLTHROUGH {
				falls++
			}
		}
		return true
	})
	if falls < 3 {
		t.Errorf("ops fall through %d times", falls)
	}
}

func TestNamesOfOpsAreFilledAtStart(t *testing.T) {
	t.Parallel()
	filled := map[string]bool{}
	for _, d := range parsedCode(t).Decls {
		group, ok := d.(*ast.GenDecl)
		if !ok || group.Tok != token.VAR {
			continue
		}
		for _, s := range group.Specs {
			v := s.(*ast.ValueSpec)
			if len(v.Names) == 1 && len(v.Values) == 1 {
				_, call := v.Values[0].(*ast.CallExpr)
				filled[v.Names[0].Name] = call
			}
		}
	}
	if len(filled) != 1 {
		t.Fatalf("variables of chapter 10: %v", filled)
	}
	readers := 0
	for name, bodies := range functionsOf(t) {
		named, assigned := namedIn(bodies)
		for table, call := range filled {
			if !call || assigned[table] {
				t.Errorf("%s is not filled by a call alone", table)
			}
			if ast.IsExported(name) && named[table] {
				readers++
			}
		}
	}
	if readers == 0 {
		t.Error("no exported function reads the names of ops")
	}
}

func parsedCode(t *testing.T) *ast.File {
	t.Helper()
	file, err := parser.ParseFile(token.NewFileSet(), "../impl/l10_code.go", nil, 0)
	if err != nil {
		t.Fatal(err)
	}
	return file
}

// hasName: whether a name stands in a piece of the program.
func hasName(piece ast.Node, name string) bool {
	found := false
	ast.Inspect(piece, func(n ast.Node) bool {
		id, ok := n.(*ast.Ident)
		found = found || ok && id.Name == name
		return true
	})
	return found
}
