package wal_test

import (
	"go/ast"
	"go/build"
	"go/parser"
	"go/token"
	"slices"
	"testing"
)

// sources are the files of the package, without its tests, where they are, and what they import.
func sources(t *testing.T) (files []*ast.File, places *token.FileSet, imports []string) {
	t.Helper()
	p, err := build.ImportDir(".", 0)
	if err != nil {
		t.Fatal(err)
	}
	places = token.NewFileSet()
	for _, name := range p.GoFiles {
		f, err := parser.ParseFile(places, name, nil, 0)
		if err != nil {
			t.Fatal(err)
		}
		files = append(files, f)
	}
	return files, places, p.Imports
}

// find are the nodes of the package of a kind for which it holds.
func find[N ast.Node](t *testing.T, holds func(N) bool) []N {
	t.Helper()
	var found []N
	files, _, _ := sources(t)
	for _, f := range files {
		ast.Inspect(f, func(n ast.Node) bool {
			if x, ok := n.(N); ok && holds(x) {
				found = append(found, x)
			}
			return true
		})
	}
	return found
}

// isName tells whether it is x.name, of some x, or of this one.
func isName(e ast.Expr, x, name string) bool {
	s, ok := e.(*ast.SelectorExpr)
	if !ok || s.Sel.Name != name {
		return false
	}
	id, ok := s.X.(*ast.Ident)
	return x == "" || ok && id.Name == x
}

// The chapter has it: of the project's packages it imports api, extent and frame; it needs little of the library.
func TestImports(t *testing.T) {
	_, _, imports := sources(t)
	for _, path := range imports {
		if !slices.Contains([]string{"barograph/api", "barograph/extent", "barograph/frame", "errors", "math", "slices", "strconv", "strings"}, path) {
			t.Errorf("package wal imports %s", path)
		}
	}
}

func TestNothingIsKeptBetweenLogs(t *testing.T) {
	files, _, _ := sources(t)
	for _, f := range files {
		for _, d := range f.Decls {
			if g, ok := d.(*ast.GenDecl); ok && g.Tok == token.VAR {
				t.Error("a variable of the package would be shared by all logs")
			}
		}
	}
}

// No function is longer than some sixty lines, so that each can be taken in.
func TestFunctionsAreShort(t *testing.T) {
	files, places, _ := sources(t)
	for _, f := range files {
		for _, d := range f.Decls {
			if lines := places.Position(d.End()).Line - places.Position(d.Pos()).Line; lines > 60 {
				t.Errorf("%v: %d lines", places.Position(d.Pos()), lines)
			}
		}
	}
}

// The chapter asks for it: errors of the store are wrapped in a type of this package with Unwrap.
func TestErrorsAreWrapped(t *testing.T) {
	unwraps := find(t, func(f *ast.FuncDecl) bool { return f.Recv != nil && f.Name.Name == "Unwrap" })
	if len(unwraps) != 1 {
		t.Errorf("%d types have Unwrap", len(unwraps))
	}
}

// The chapter asks for it: they are distinguished by errors.Is and errors.As, and not held against one another.
func TestErrorsAreDistinguished(t *testing.T) {
	is := find(t, func(c *ast.CallExpr) bool { return isName(c.Fun, "errors", "Is") })
	as := find(t, func(c *ast.CallExpr) bool { return isName(c.Fun, "errors", "As") })
	if len(is) < 4 || len(as) < 1 {
		t.Errorf("errors.Is is called %d times, errors.As %d times", len(is), len(as))
	}
	held := find(t, func(b *ast.BinaryExpr) bool {
		s, ok := b.Y.(*ast.SelectorExpr)
		return ok && (b.Op == token.EQL || b.Op == token.NEQ) && isName(s, "api", s.Sel.Name) && s.Sel.Name != "OK"
	})
	if len(held) > 0 {
		t.Errorf("%d errors are held against others by a sign", len(held))
	}
}

// The document asks for it: staged steps are method values.
func TestStepsAreMethodValues(t *testing.T) {
	values := find(t, func(c *ast.CompositeLit) bool {
		id, ok := c.Type.(*ast.Ident)
		if !ok || id.Name != "step" || len(c.Elts) != 2 {
			return false
		}
		_, ok = c.Elts[1].(*ast.SelectorExpr)
		return ok
	})
	all := find(t, func(c *ast.CompositeLit) bool { id, ok := c.Type.(*ast.Ident); return ok && id.Name == "step" })
	if len(values) < 4 || len(values) < len(all) {
		t.Errorf("%d of %d steps are method values", len(values), len(all))
	}
}
