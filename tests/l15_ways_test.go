package tests

import (
	"go/ast"
	"go/parser"
	"go/token"
	"testing"
)

// How chapter 15 is built: a level embeds a set of lines, whose methods are promoted,
// and policies stand behind an interface.

// layerFile: what the file of a chapter declares, by names.
type layerFile struct {
	*ast.File
	structs    map[string]*ast.StructType
	interfaces map[string]*ast.InterfaceType
	methods    map[string]map[string]bool // by their type
}

func parsedLayer(t *testing.T, name string) layerFile {
	t.Helper()
	file, err := parser.ParseFile(token.NewFileSet(), "../impl/"+name, nil, 0)
	if err != nil {
		t.Fatal(err)
	}
	m := layerFile{file, map[string]*ast.StructType{}, map[string]*ast.InterfaceType{}, map[string]map[string]bool{}}
	ast.Inspect(file, func(n ast.Node) bool {
		switch x := n.(type) {
		case *ast.TypeSpec:
			switch kind := x.Type.(type) {
			case *ast.StructType:
				m.structs[x.Name.Name] = kind
			case *ast.InterfaceType:
				m.interfaces[x.Name.Name] = kind
			}
		case *ast.FuncDecl:
			if _, of := receiverOf(x); of != "" {
				if m.methods[of] == nil {
					m.methods[of] = map[string]bool{}
				}
				m.methods[of][x.Name.Name] = true
			}
		}
		return true
	})
	return m
}

// receiverOf: the name and the type of what a method is of; none of a function.
func receiverOf(f *ast.FuncDecl) (string, string) {
	if f.Recv == nil || len(f.Recv.List[0].Names) == 0 {
		return "", ""
	}
	of := f.Recv.List[0].Type
	if star, ok := of.(*ast.StarExpr); ok {
		of = star.X
	}
	name, _ := of.(*ast.Ident)
	return f.Recv.List[0].Names[0].Name, name.Name
}

// embedded: the types that a struct embeds.
func (m layerFile) embedded(of string) []string {
	var names []string
	if m.structs[of] == nil {
		return nil
	}
	for _, field := range m.structs[of].Fields.List {
		if name, ok := field.Type.(*ast.Ident); ok && len(field.Names) == 0 {
			names = append(names, name.Name)
		}
	}
	return names
}

// has: whether a type has a method, of its own or by what it embeds.
func (m layerFile) has(of, method string) bool {
	if m.methods[of][method] {
		return true
	}
	for _, part := range m.embedded(of) {
		if m.has(part, method) {
			return true
		}
	}
	return false
}

func TestLevelsEmbedLines(t *testing.T) {
	t.Parallel()
	m := parsedLayer(t, "l15_memory.go")
	promoted := map[string]bool{}
	for _, d := range m.Decls {
		f, ok := d.(*ast.FuncDecl)
		if !ok {
			continue
		}
		self, of := receiverOf(f)
		ast.Inspect(f, func(n ast.Node) bool {
			call, ok := n.(*ast.CallExpr)
			if !ok {
				return true
			}
			if s, ok := call.Fun.(*ast.SelectorExpr); ok {
				x, isName := s.X.(*ast.Ident)
				if isName && of == "level" && x.Name == self && !m.methods[of][s.Sel.Name] && m.has(of, s.Sel.Name) {
					promoted[s.Sel.Name] = true
				}
			}
			return true
		})
	}
	if len(m.embedded("level")) == 0 || len(promoted) < 2 {
		t.Errorf("a level embeds %v, and calls the promoted %v", m.embedded("level"), promoted)
	}
}

func TestPoliciesStandBehindAnInterface(t *testing.T) {
	t.Parallel()
	m := parsedLayer(t, "l15_memory.go")
	if len(m.interfaces) != 1 {
		t.Fatalf("%d interfaces", len(m.interfaces))
	}
	for name, kind := range m.interfaces {
		behind := 0
		for of := range m.structs {
			all := true
			for _, method := range kind.Methods.List {
				all = all && m.has(of, method.Names[0].Name)
			}
			if all {
				behind++
			}
		}
		if behind < 3 {
			t.Errorf("%d types stand behind %s", behind, name)
		}
		fields := map[string]bool{}
		for _, field := range m.structs["level"].Fields.List {
			if of, ok := field.Type.(*ast.Ident); ok && of.Name == name && len(field.Names) == 1 {
				fields[field.Names[0].Name] = true
			}
		}
		called := map[string]bool{}
		ast.Inspect(m.File, func(n ast.Node) bool {
			if call, ok := n.(*ast.CallExpr); ok {
				if s, ok := call.Fun.(*ast.SelectorExpr); ok {
					if x, ok := s.X.(*ast.SelectorExpr); ok && fields[x.Sel.Name] {
						called[s.Sel.Name] = true
					}
				}
			}
			return true
		})
		if len(called) != len(kind.Methods.List) {
			t.Errorf("through %s are called %v", name, called)
		}
	}
}
