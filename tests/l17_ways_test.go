package tests

import (
	"go/ast"
	"go/token"
	"testing"
)

// How chapter 17 is built: rows are covered by goroutines that are joined, pixels are
// gone through by an iterator.

// callsOf: where a method of something with a name is called.
func callsOf(within ast.Node, name, method string) []token.Pos {
	var found []token.Pos
	ast.Inspect(within, func(n ast.Node) bool {
		if call, ok := n.(*ast.CallExpr); ok {
			if s, ok := call.Fun.(*ast.SelectorExpr); ok && s.Sel.Name == method {
				if x, ok := s.X.(*ast.Ident); ok && x.Name == name {
					found = append(found, call.Pos())
				}
			}
		}
		return true
	})
	return found
}

// groupsOf: the names of all that is a sync.WaitGroup in a function.
func groupsOf(f *ast.FuncDecl) []string {
	var names []string
	ast.Inspect(f, func(n ast.Node) bool {
		if spec, ok := n.(*ast.ValueSpec); ok {
			if kind, ok := spec.Type.(*ast.SelectorExpr); ok && kind.Sel.Name == "WaitGroup" {
				names = append(names, spec.Names[0].Name)
			}
		}
		return true
	})
	return names
}

// startedIn: the goroutines that a function starts in a loop, and how many it starts
// in all.
func startedIn(f *ast.FuncDecl) ([]*ast.GoStmt, int) {
	var inLoops []*ast.GoStmt
	all := 0
	ast.Inspect(f, func(n ast.Node) bool {
		switch x := n.(type) {
		case *ast.GoStmt:
			all++
		case *ast.RangeStmt:
			for _, s := range x.Body.List {
				if started, ok := s.(*ast.GoStmt); ok {
					inLoops = append(inLoops, started)
				}
			}
		}
		return true
	})
	return inLoops, all
}

func TestRowsAreCoveredByWorkers(t *testing.T) {
	t.Parallel()
	m := parsedLayer(t, "l17_raster.go")
	workers := 0
	for _, d := range m.Decls {
		f, ok := d.(*ast.FuncDecl)
		if !ok {
			continue
		}
		inLoops, all := startedIn(f)
		if len(inLoops) != all {
			t.Errorf("%s starts %d goroutines, %d of them in a loop", f.Name.Name, all, len(inLoops))
		}
		groups := groupsOf(f)
		if all == 0 {
			continue
		}
		if len(groups) != 1 {
			t.Fatalf("%s has %v", f.Name.Name, groups)
		}
		for _, started := range inLoops {
			workers++
			adds, waits := callsOf(f, groups[0], "Add"), callsOf(f, groups[0], "Wait")
			if len(adds) != 1 || adds[0] > started.Pos() || len(waits) != 1 || waits[0] < started.End() {
				t.Errorf("%s does not wait for all that it starts", f.Name.Name)
			}
			work, ok := started.Call.Fun.(*ast.FuncLit)
			if !ok {
				t.Fatalf("%s starts no function literal", f.Name.Name)
			}
			first, ok := work.Body.List[0].(*ast.DeferStmt)
			if !ok || len(callsOf(first, groups[0], "Done")) != 1 {
				t.Errorf("what %s starts does not end by Done", f.Name.Name)
			}
		}
	}
	if workers == 0 {
		t.Error("no row has a worker")
	}
}

func TestPixelsAreGoneThroughByAnIterator(t *testing.T) {
	t.Parallel()
	m := parsedLayer(t, "l17_raster.go")
	iterators := map[string]bool{}
	for _, d := range m.Decls {
		f, ok := d.(*ast.FuncDecl)
		if !ok || f.Type.Results == nil {
			continue
		}
		if of, ok := f.Type.Results.List[0].Type.(*ast.IndexExpr); ok {
			if kind, ok := of.X.(*ast.SelectorExpr); ok && kind.Sel.Name == "Seq" {
				iterators[f.Name.Name] = true
			}
		}
	}
	ranged := map[string]bool{}
	ast.Inspect(m.File, func(n ast.Node) bool {
		if loop, ok := n.(*ast.RangeStmt); ok {
			if call, ok := loop.X.(*ast.CallExpr); ok {
				if name, ok := call.Fun.(*ast.Ident); ok && iterators[name.Name] {
					ranged[name.Name] = true
				}
			}
		}
		return true
	})
	if len(iterators) == 0 || len(ranged) != len(iterators) {
		t.Errorf("of the iterators %v are gone through %v", iterators, ranged)
	}
}
