package tests

import (
	"go/ast"
	"go/parser"
	"go/token"
	"path/filepath"
	"testing"
)

// declared returns the functions, methods and types of the program by their names.
func declared(t *testing.T) map[string][]ast.Node {
	t.Helper()
	files, err := filepath.Glob("../impl/*.go")
	if err != nil || len(files) == 0 {
		t.Fatal("no files of the program", err)
	}
	out := map[string][]ast.Node{}
	for _, name := range files {
		f, err := parser.ParseFile(token.NewFileSet(), name, nil, parser.SkipObjectResolution)
		if err != nil {
			t.Fatal(err)
		}
		for _, d := range f.Decls {
			switch x := d.(type) {
			case *ast.FuncDecl:
				out[x.Name.Name] = append(out[x.Name.Name], x)
			case *ast.GenDecl:
				for _, s := range x.Specs {
					if y, ok := s.(*ast.TypeSpec); ok {
						out[y.Name.Name] = append(out[y.Name.Name], y)
					}
				}
			}
		}
	}
	return out
}

// reachable returns the declarations that the exported functions reach by the names in them.
func reachable(t *testing.T) []ast.Node {
	t.Helper()
	all := declared(t)
	seen := map[string]bool{}
	var out []ast.Node
	var visit func(name string)
	visit = func(name string) {
		if seen[name] {
			return
		}
		seen[name] = true
		for _, n := range all[name] {
			out = append(out, n)
			ast.Inspect(n, func(m ast.Node) bool {
				if id, ok := m.(*ast.Ident); ok {
					visit(id.Name)
				}
				return true
			})
		}
	}
	for name := range all {
		if ast.IsExported(name) {
			visit(name)
		}
	}
	return out
}

// isSequence reports whether a type is that of a function to range over: one of package iter, or one with yield.
func isSequence(e ast.Expr) bool {
	switch x := e.(type) {
	case *ast.IndexExpr:
		return isSequence(x.X)
	case *ast.IndexListExpr:
		return isSequence(x.X)
	case *ast.SelectorExpr:
		p, ok := x.X.(*ast.Ident)
		return ok && p.Name == "iter"
	case *ast.FuncType:
		return len(x.Params.List) == 1 && len(x.Params.List[0].Names) == 1 && x.Params.List[0].Names[0].Name == "yield"
	}
	return false
}

// sequences returns the names of the functions that return a function to range over.
func sequences(t *testing.T) map[string]bool {
	t.Helper()
	out := map[string]bool{}
	for name, l := range declared(t) {
		for _, n := range l {
			f, ok := n.(*ast.FuncDecl)
			if ok && f.Type.Results != nil && isSequence(f.Type.Results.List[0].Type) {
				out[name] = true
			}
		}
	}
	return out
}

// calledName returns the name of the called function; that of a package's function with the package's name.
func calledName(e ast.Expr) string {
	c, ok := e.(*ast.CallExpr)
	if !ok {
		return ""
	}
	switch f := c.Fun.(type) {
	case *ast.Ident:
		return f.Name
	case *ast.SelectorExpr:
		if p, ok := f.X.(*ast.Ident); ok && p.Name == "errors" {
			return "errors." + f.Sel.Name
		}
		return f.Sel.Name
	}
	return ""
}

// noteWay records the language feature that a node is.
func noteWay(n ast.Node, sequence map[string]bool, found map[string]bool) {
	switch x := n.(type) {
	case *ast.CallExpr:
		found["call of "+calledName(x)] = true
	case *ast.RangeStmt:
		if sequence[calledName(x.X)] {
			found["range over a function"] = true
		}
	case *ast.DeferStmt:
		_, literal := x.Call.Fun.(*ast.FuncLit)
		found["deferred function literal"] = found["deferred function literal"] || literal
	case *ast.StarExpr:
		found["pointer type"] = true
	case *ast.FuncDecl:
		found["generic function"] = found["generic function"] || x.Type.TypeParams != nil
	case *ast.TypeSpec:
		found["generic type"] = found["generic type"] || x.TypeParams != nil
	}
}

func wantWays(t *testing.T, ways ...string) {
	t.Helper()
	found := map[string]bool{}
	sequence := sequences(t)
	for _, d := range reachable(t) {
		ast.Inspect(d, func(n ast.Node) bool {
			noteWay(n, sequence, found)
			return true
		})
	}
	for _, way := range ways {
		if !found[way] {
			t.Errorf("what the exported functions reach has no %s", way)
		}
	}
}

func TestWaysOfWiresAndBooks(t *testing.T) {
	wantWays(t, "call of panic", "call of recover", "deferred function literal", "pointer type", "generic function", "generic type")
}

func TestWaysOfMatchesAndExecs(t *testing.T) {
	wantWays(t, "range over a function", "call of errors.Is", "call of errors.As")
}
