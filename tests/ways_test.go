package tests

import (
	"go/ast"
	"go/parser"
	"go/token"
	"path/filepath"
	"testing"
)

// declared returns the functions, methods and types of the program by their names.
func declared(t *testing.T) map[string][]ast.Node {
	t.Helper()
	files, err := filepath.Glob("../impl/*.go")
	if err != nil || len(files) == 0 {
		t.Fatal("no files of the program", err)
	}
	out := map[string][]ast.Node{}
	for _, name := range files {
		f, err := parser.ParseFile(token.NewFileSet(), name, nil, parser.SkipObjectResolution)
		if err != nil {
			t.Fatal(err)
		}
		for _, d := range f.Decls {
			switch x := d.(type) {
			case *ast.FuncDecl:
				out[x.Name.Name] = append(out[x.Name.Name], x)
			case *ast.GenDecl:
				for _, s := range x.Specs {
					if y, ok := s.(*ast.TypeSpec); ok {
						out[y.Name.Name] = append(out[y.Name.Name], y)
					}
				}
			}
		}
	}
	return out
}

// reachable returns the declarations that the exported functions reach by the names in them.
func reachable(t *testing.T) []ast.Node {
	t.Helper()
	all := declared(t)
	seen := map[string]bool{}
	var out []ast.Node
	var visit func(name string)
	visit = func(name string) {
		if seen[name] {
			return
		}
		seen[name] = true
		for _, n := range all[name] {
			out = append(out, n)
			ast.Inspect(n, func(m ast.Node) bool {
				if id, ok := m.(*ast.Ident); ok {
					visit(id.Name)
				}
				return true
			})
		}
	}
	for name := range all {
		if ast.IsExported(name) {
			visit(name)
		}
	}
	return out
}

// noteWay records the language feature that a node is.
func noteWay(n ast.Node, found map[string]bool) {
	switch x := n.(type) {
	case *ast.CallExpr:
		if f, ok := x.Fun.(*ast.Ident); ok {
			found["call of "+f.Name] = true
		}
	case *ast.DeferStmt:
		_, literal := x.Call.Fun.(*ast.FuncLit)
		found["deferred function literal"] = found["deferred function literal"] || literal
	case *ast.StarExpr:
		found["pointer type"] = true
	case *ast.FuncDecl:
		found["generic function"] = found["generic function"] || x.Type.TypeParams != nil
	case *ast.TypeSpec:
		found["generic type"] = found["generic type"] || x.TypeParams != nil
	}
}

func TestWaysOfWiresAndBooks(t *testing.T) {
	found := map[string]bool{}
	for _, d := range reachable(t) {
		ast.Inspect(d, func(n ast.Node) bool {
			noteWay(n, found)
			return true
		})
	}
	for _, way := range []string{"call of panic", "call of recover", "deferred function literal", "pointer type", "generic function", "generic type"} {
		if !found[way] {
			t.Errorf("what the exported functions reach has no %s", way)
		}
	}
}
