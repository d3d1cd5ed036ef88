package tests

import (
	"go/ast"
	"go/parser"
	"go/token"
	"path/filepath"
	"testing"
)

// How chapter 6 is built: its table of operations stands, init fills it, and OpWords
// alone reads it; all others work their answers out by functions.

// functionsOf: the bodies of the functions of package impl, by their names; of
// several with one name, as of init, all of them.
func functionsOf(t *testing.T) map[string][]*ast.BlockStmt {
	t.Helper()
	files, err := filepath.Glob("../impl/*.go")
	if err != nil || len(files) == 0 {
		t.Fatalf("package impl is not here: %v", err)
	}
	bodies := map[string][]*ast.BlockStmt{}
	for _, file := range files {
		parsed, err := parser.ParseFile(token.NewFileSet(), file, nil, 0)
		if err != nil {
			t.Fatal(err)
		}
		for _, d := range parsed.Decls {
			if f, ok := d.(*ast.FuncDecl); ok {
				bodies[f.Name.Name] = append(bodies[f.Name.Name], f.Body)
			}
		}
	}
	return bodies
}

// namedIn: the names that stand in bodies, but for those that are assigned to.
func namedIn(l []*ast.BlockStmt) (named, assigned map[string]bool) {
	named, assigned = map[string]bool{}, map[string]bool{}
	for _, body := range l {
		ast.Inspect(body, func(n ast.Node) bool {
			switch x := n.(type) {
			case *ast.AssignStmt:
				for i, to := range x.Lhs {
					if id, ok := to.(*ast.Ident); ok && x.Tok == token.ASSIGN {
						assigned[id.Name] = true
						x.Lhs[i] = ast.NewIdent("_")
					}
				}
			case *ast.Ident:
				named[x.Name] = true
			}
			return true
		})
	}
	return named, assigned
}

func TestTableOfOperations(t *testing.T) {
	t.Parallel()
	const table = "operations"
	bodies := functionsOf(t)
	named, assigned := map[string]map[string]bool{}, map[string]map[string]bool{}
	for name, l := range bodies {
		named[name], assigned[name] = namedIn(l)
	}
	for name := range bodies {
		if assigned[name][table] != (name == "init") {
			t.Errorf("%s: whether it fills the table is %v", name, assigned[name][table])
		}
	}
	readers := 0
	for name := range named {
		if ast.IsExported(name) && named[name][table] {
			readers++
		}
	}
	if readers == 0 {
		t.Error("no exported function reads the table")
	}
}

// No other function names the table, or OpWords, by which it would be read.
func TestOnlyOpWordsReadsTheTable(t *testing.T) {
	t.Parallel()
	for name, bodies := range functionsOf(t) {
		named, _ := namedIn(bodies)
		if named["operations"] != (name == "OpWords") || named["OpWords"] {
			t.Errorf("%s reads the table of operations, or OpWords does not", name)
		}
	}
}
