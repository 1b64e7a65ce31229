package tests

import (
	"go/ast"
	"go/parser"
	"go/token"
	"path/filepath"
	"slices"
	"testing"
)

// declared returns the functions, methods and types of the program by their names.
func declared(t *testing.T) map[string][]ast.Node {
	t.Helper()
	files, err := filepath.Glob("../impl/*.go")
	if err != nil || len(files) == 0 {
		t.Fatal("no files of the program", err)
	}
	out := map[string][]ast.Node{}
	for _, name := range files {
		f, err := parser.ParseFile(token.NewFileSet(), name, nil, parser.SkipObjectResolution)
		if err != nil {
			t.Fatal(err)
		}
		for _, d := range f.Decls {
			switch x := d.(type) {
			case *ast.FuncDecl:
				out[x.Name.Name] = append(out[x.Name.Name], x)
			case *ast.GenDecl:
				for _, s := range x.Specs {
					if y, ok := s.(*ast.TypeSpec); ok {
						out[y.Name.Name] = append(out[y.Name.Name], y)
					}
				}
			}
		}
	}
	return out
}

func exported(all map[string][]ast.Node) []string {
	var out []string
	for name := range all {
		if ast.IsExported(name) {
			out = append(out, name)
		}
	}
	return out
}

// reachable returns the declarations that these functions reach by the names in them.
func reachable(all map[string][]ast.Node, from []string) []ast.Node {
	seen := map[string]bool{}
	var out []ast.Node
	var visit func(name string)
	visit = func(name string) {
		if seen[name] {
			return
		}
		seen[name] = true
		for _, n := range all[name] {
			out = append(out, n)
			ast.Inspect(n, func(m ast.Node) bool {
				if id, ok := m.(*ast.Ident); ok {
					visit(id.Name)
				}
				return true
			})
		}
	}
	for _, name := range from {
		visit(name)
	}
	return out
}

// isSequence reports whether a type is that of a function to range over: one of package iter, or one with yield.
func isSequence(e ast.Expr) bool {
	switch x := e.(type) {
	case *ast.IndexExpr:
		return isSequence(x.X)
	case *ast.IndexListExpr:
		return isSequence(x.X)
	case *ast.SelectorExpr:
		p, ok := x.X.(*ast.Ident)
		return ok && p.Name == "iter"
	case *ast.FuncType:
		return len(x.Params.List) == 1 && len(x.Params.List[0].Names) == 1 && x.Params.List[0].Names[0].Name == "yield"
	}
	return false
}

// sequences returns the names of the functions that return a function to range over.
func sequences(all map[string][]ast.Node) map[string]bool {
	out := map[string]bool{}
	for name, l := range all {
		for _, n := range l {
			f, ok := n.(*ast.FuncDecl)
			if ok && f.Type.Results != nil && isSequence(f.Type.Results.List[0].Type) {
				out[name] = true
			}
		}
	}
	return out
}

// calledName returns the name of the called function; that of a package's function with the package's name.
func calledName(e ast.Expr) string {
	c, ok := e.(*ast.CallExpr)
	if !ok {
		return ""
	}
	switch f := c.Fun.(type) {
	case *ast.Ident:
		return f.Name
	case *ast.SelectorExpr:
		if p, ok := f.X.(*ast.Ident); ok && p.Name == "errors" {
			return "errors." + f.Sel.Name
		}
		return f.Sel.Name
	}
	return ""
}

// noteWay records the language feature that a node is.
func noteWay(n ast.Node, sequence map[string]bool, found map[string]bool) {
	switch x := n.(type) {
	case *ast.CallExpr:
		found["call of "+calledName(x)] = true
	case *ast.RangeStmt:
		if sequence[calledName(x.X)] {
			found["range over a function"] = true
		}
	case *ast.DeferStmt:
		_, literal := x.Call.Fun.(*ast.FuncLit)
		found["deferred function literal"] = found["deferred function literal"] || literal
	case *ast.StarExpr:
		found["pointer type"] = true
	case *ast.InterfaceType:
		found["interface type with methods"] = found["interface type with methods"] || hasMethods(x)
	case *ast.TypeSwitchStmt:
		found["type switch"] = true
	case *ast.MapType:
		found["map"] = true
	case *ast.ArrayType:
		found["array"] = found["array"] || x.Len != nil
	case *ast.FuncType:
		noteFunctions(x.Params, found)
	case *ast.StructType:
		noteFunctions(x.Fields, found)
	case *ast.ChanType:
		found["channel"] = true
	case *ast.GoStmt:
		found["go statement"] = true
	case *ast.FuncLit:
		found["function literal"] = true
	case *ast.AssignStmt:
		found["function literal that calls itself"] = found["function literal that calls itself"] || callsItself(x)
	case *ast.LabeledStmt:
		found["label"] = true
		found["labelled loop"] = found["labelled loop"] || isLoop(x.Stmt)
	case *ast.BranchStmt:
		found[x.Tok.String()] = true
	case *ast.FuncDecl:
		found["generic function"] = found["generic function"] || x.Type.TypeParams != nil
	case *ast.TypeSpec:
		found["generic type"] = found["generic type"] || x.TypeParams != nil
		noteFunction(x.Type, found)
	}
}

// noteFunction records that a parameter, a field or a type is a function; the methods of interfaces are none of these.
func noteFunction(e ast.Expr, found map[string]bool) {
	if _, ok := e.(*ast.FuncType); ok {
		found["function as a parameter, field or type"] = true
	}
}

func noteFunctions(l *ast.FieldList, found map[string]bool) {
	for _, f := range l.List {
		noteFunction(f.Type, found)
	}
}

func hasMethods(x *ast.InterfaceType) bool {
	return slices.ContainsFunc(x.Methods.List, func(f *ast.Field) bool {
		_, ok := f.Type.(*ast.FuncType)
		return ok
	})
}

func isLoop(s ast.Stmt) bool {
	switch s.(type) {
	case *ast.ForStmt, *ast.RangeStmt:
		return true
	}
	return false
}

// callsItself reports whether a function literal calls the variable to which it is assigned.
func callsItself(x *ast.AssignStmt) bool {
	name, ok := x.Lhs[0].(*ast.Ident)
	literal, isLiteral := x.Rhs[0].(*ast.FuncLit)
	calls := false
	if ok && isLiteral {
		ast.Inspect(literal, func(n ast.Node) bool {
			if c, ok := n.(*ast.CallExpr); ok && calledName(c) == name.Name {
				calls = true
			}
			return true
		})
	}
	return calls
}

// methodNames returns the names of the methods that are not those of fields too.
func methodNames(all map[string][]ast.Node) map[string]bool {
	names := map[string]bool{}
	for name, l := range all {
		for _, n := range l {
			if f, ok := n.(*ast.FuncDecl); ok && f.Recv != nil {
				names[name] = true
			}
		}
	}
	for _, l := range all {
		for _, n := range l {
			ast.Inspect(n, func(m ast.Node) bool {
				if x, ok := m.(*ast.StructType); ok {
					dropFields(names, x)
				}
				return true
			})
		}
	}
	return names
}

func dropFields(names map[string]bool, x *ast.StructType) {
	for _, f := range x.Fields.List {
		for _, id := range f.Names {
			delete(names, id.Name)
		}
	}
}

// hasMethodValue reports whether a method is selected in a declaration without being called.
func hasMethodValue(d ast.Node, methods map[string]bool) bool {
	called := map[ast.Expr]bool{}
	has := false
	ast.Inspect(d, func(n ast.Node) bool {
		switch x := n.(type) {
		case *ast.CallExpr:
			called[x.Fun] = true
		case *ast.SelectorExpr:
			has = has || methods[x.Sel.Name] && !called[x]
		}
		return true
	})
	return has
}

// wantWays checks that the code that these functions reach, or all exported ones, has the language features.
func wantWays(t *testing.T, from []string, ways ...string) {
	t.Helper()
	all := declared(t)
	if from == nil {
		from = exported(all)
	}
	found := map[string]bool{}
	sequence, methods := sequences(all), methodNames(all)
	for _, d := range reachable(all, from) {
		found["method value"] = found["method value"] || hasMethodValue(d, methods)
		ast.Inspect(d, func(n ast.Node) bool {
			noteWay(n, sequence, found)
			return true
		})
	}
	for _, way := range ways {
		if !found[way] {
			t.Errorf("what the exported functions reach has no %s", way)
		}
	}
}

func TestWaysOfWiresAndBooks(t *testing.T) {
	wantWays(t, nil, "call of panic", "call of recover", "deferred function literal", "pointer type", "generic function", "generic type")
}

func TestWaysOfMatchesAndExecs(t *testing.T) {
	wantWays(t, nil, "range over a function", "call of errors.Is", "call of errors.As")
}

func TestWaysOfEnginesAndRules(t *testing.T) {
	wantWays(t, nil, "interface type with methods", "type switch", "map")
	wantWays(t, []string{"Step"}, "interface type with methods", "type switch")
	wantWays(t, []string{"Fold"}, "interface type with methods", "type switch")
	wantWays(t, []string{"Net"}, "map")
}

func TestWaysOfFabrics(t *testing.T) {
	wantWays(t, nil, "channel", "go statement")
	for _, name := range []string{"Pick", "PickAll", "Finish"} {
		wantWays(t, []string{name}, "channel", "go statement")
	}
}

func TestWaysOfAuctionsTradesAndDepths(t *testing.T) {
	wantWays(t, nil, "function literal", "range over a function", "label", "goto")
	for _, name := range []string{"AuctionPrice", "Uncrossed"} {
		wantWays(t, []string{name}, "function literal that calls itself")
	}
	wantWays(t, []string{"TradesOf"}, "range over a function")
	wantWays(t, []string{"Depth"}, "labelled loop")
	wantWays(t, []string{"DepthDelta"}, "labelled loop")
	wantWays(t, []string{"DepthApplied"}, "labelled loop", "goto")
}

func TestWaysOfDisksAndStores(t *testing.T) {
	wantWays(t, nil, "interface type with methods", "type switch", "function as a parameter, field or type", "array")
	for _, name := range []string{"DiskOk", "Do"} {
		wantWays(t, []string{name}, "interface type with methods")
	}
	wantWays(t, []string{"Crash"}, "interface type with methods", "type switch")
	for _, name := range []string{"StoreDo", "StorePlay"} {
		wantWays(t, []string{name}, "function as a parameter, field or type", "array")
	}
}

func TestWaysOfFieldsAndRisks(t *testing.T) {
	wantWays(t, nil, "map", "function as a parameter, field or type", "array")
	for _, name := range []string{"FieldsOf", "CmdOf"} {
		wantWays(t, []string{name}, "map")
	}
	for _, name := range []string{"Allowed", "Guarded"} {
		wantWays(t, []string{name}, "function as a parameter, field or type", "array")
	}
}

func TestWaysOfTheScript(t *testing.T) {
	wantWays(t, nil, "map", "method value")
	wantWays(t, []string{"RunScript"}, "map", "method value")
}
