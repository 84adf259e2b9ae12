package bits_test

import (
	"go/ast"
	"go/parser"
	"go/token"
	"os"
	"strings"
	"testing"
)

// declarations are those of the package, without its tests; its imports are told of here.
func declarations(t *testing.T) []ast.Decl {
	t.Helper()
	entries, err := os.ReadDir(".")
	if err != nil {
		t.Fatal(err)
	}
	var decls []ast.Decl
	for _, entry := range entries {
		name := entry.Name()
		if !strings.HasSuffix(name, ".go") || strings.HasSuffix(name, "_test.go") {
			continue
		}
		f, err := parser.ParseFile(token.NewFileSet(), name, nil, 0)
		if err != nil {
			t.Fatal(err)
		}
		for _, i := range f.Imports {
			if i.Path.Value != `"barograph/api"` {
				t.Errorf("%s imports %s: the chapter has api only", name, i.Path.Value)
			}
		}
		decls = append(decls, f.Decls...)
	}
	return decls
}

func TestNothingIsKeptBetweenCalls(t *testing.T) {
	for _, d := range declarations(t) {
		if g, ok := d.(*ast.GenDecl); ok && g.Tok == token.VAR {
			t.Error("a variable of the package would be kept from call to call")
		}
	}
}

// namedResults are the names of what a function answers.
func namedResults(f *ast.FuncDecl) []*ast.Ident {
	var names []*ast.Ident
	if f.Type.Results != nil {
		for _, field := range f.Type.Results.List {
			names = append(names, field.Names...)
		}
	}
	return names
}

// asks tells whether a condition in there looks at one of these names.
func asks(body ast.Node, names []*ast.Ident) bool {
	found := false
	ast.Inspect(body, func(n ast.Node) bool {
		branch, ok := n.(*ast.IfStmt)
		if !ok {
			return true
		}
		ast.Inspect(branch.Cond, func(n ast.Node) bool {
			if id, ok := n.(*ast.Ident); ok {
				for _, name := range names {
					found = found || id.Name == name.Name
				}
			}
			return true
		})
		return true
	})
	return found
}

// setsPlace tells whether the reader's position is set in there.
func setsPlace(body ast.Node) bool {
	found := false
	ast.Inspect(body, func(n ast.Node) bool {
		if a, ok := n.(*ast.AssignStmt); ok {
			for _, left := range a.Lhs {
				s, ok := left.(*ast.SelectorExpr)
				found = found || ok && s.Sel.Name == "at"
			}
		}
		return true
	})
	return found
}

// The chapter asks for it: a reader that restores its position after an error does so in a deferred function that looks at a named result.
func TestPlaceIsRestoredInDeferredFunction(t *testing.T) {
	restores := 0
	for _, d := range declarations(t) {
		f, ok := d.(*ast.FuncDecl)
		if !ok {
			continue
		}
		ast.Inspect(f, func(n ast.Node) bool {
			deferred, ok := n.(*ast.DeferStmt)
			if !ok {
				return true
			}
			if body, ok := deferred.Call.Fun.(*ast.FuncLit); ok && asks(body, namedResults(f)) && setsPlace(body) {
				restores++
			}
			return true
		})
	}
	if restores == 0 {
		t.Error("no deferred function restores the position by a named result")
	}
}
