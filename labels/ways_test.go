package labels_test

import (
	"go/ast"
	"go/build"
	"go/parser"
	"go/token"
	"slices"
	"testing"
)

// sources are the files of the package, without its tests, and what they import.
func sources(t *testing.T) (files []*ast.File, imports []string) {
	t.Helper()
	p, err := build.ImportDir(".", 0)
	if err != nil {
		t.Fatal(err)
	}
	for _, name := range p.GoFiles {
		f, err := parser.ParseFile(token.NewFileSet(), name, nil, 0)
		if err != nil {
			t.Fatal(err)
		}
		files = append(files, f)
	}
	return files, p.Imports
}

// count is how many nodes there are in there for which it holds.
func count(n ast.Node, holds func(ast.Node) bool) int {
	found := 0
	ast.Inspect(n, func(n ast.Node) bool {
		if n != nil && holds(n) {
			found++
		}
		return true
	})
	return found
}

// functions are those of the package.
func functions(t *testing.T) []*ast.FuncDecl {
	t.Helper()
	var all []*ast.FuncDecl
	files, _ := sources(t)
	for _, f := range files {
		for _, d := range f.Decls {
			if f, ok := d.(*ast.FuncDecl); ok {
				all = append(all, f)
			}
		}
	}
	return all
}

// The chapter has it: of the project's packages it imports api and text.
func TestImports(t *testing.T) {
	_, imports := sources(t)
	for _, path := range imports {
		if !slices.Contains([]string{"barograph/api", "barograph/text", "slices", "strings"}, path) {
			t.Errorf("package labels imports %s", path)
		}
	}
}

func TestNothingIsKeptBetweenCalls(t *testing.T) {
	files, _ := sources(t)
	for _, f := range files {
		for _, d := range f.Decls {
			if g, ok := d.(*ast.GenDecl); ok && g.Tok == token.VAR {
				t.Error("a variable of the package would be kept from call to call")
			}
		}
	}
}

// The chapter asks for it: lists are sorted with a comparison function that is passed as an argument.
func TestListsAreSortedByAFunction(t *testing.T) {
	sorts := 0
	for _, f := range functions(t) {
		sorts += count(f, func(n ast.Node) bool {
			c, ok := n.(*ast.CallExpr)
			if !ok || len(c.Args) != 2 {
				return false
			}
			s, ok := c.Fun.(*ast.SelectorExpr)
			if !ok || !slices.Contains([]string{"SortFunc", "SortedFunc", "SortStableFunc"}, s.Sel.Name) {
				return false
			}
			_, ok = c.Args[1].(*ast.Ident)
			return ok
		})
	}
	if sorts == 0 {
		t.Error("no list is sorted by a function that is passed")
	}
}

// isNames tells whether a node is the type of a map of names.
func isNames(n ast.Node) bool {
	m, ok := n.(*ast.MapType)
	if !ok {
		return false
	}
	key, ok := m.Key.(*ast.Ident)
	return ok && key.Name == "string"
}

// The chapter asks for it: which labels are kept is decided by a closure over a map of names. One function makes the map, and answers the closure.
func TestWhatIsKeptIsDecidedByAClosureOverAMap(t *testing.T) {
	decides := 0
	for _, f := range functions(t) {
		closures := count(f, func(n ast.Node) bool {
			r, ok := n.(*ast.ReturnStmt)
			if !ok || len(r.Results) != 1 {
				return false
			}
			l, ok := r.Results[0].(*ast.FuncLit)
			return ok && count(l, func(n ast.Node) bool { _, ok := n.(*ast.IndexExpr); return ok }) > 0
		})
		if closures > 0 && count(f, isNames) > 0 {
			decides++
		}
	}
	if decides == 0 {
		t.Error("no function answers a closure over a map of names")
	}
}
