package match_test

import (
	"go/ast"
	"go/build"
	"go/parser"
	"go/token"
	"slices"
	"testing"
)

// sources are the files of the package, without its tests, where they are, and what they import.
func sources(t *testing.T) (files []*ast.File, places *token.FileSet, imports []string) {
	t.Helper()
	p, err := build.ImportDir(".", 0)
	if err != nil {
		t.Fatal(err)
	}
	places = token.NewFileSet()
	for _, name := range p.GoFiles {
		f, err := parser.ParseFile(places, name, nil, 0)
		if err != nil {
			t.Fatal(err)
		}
		files = append(files, f)
	}
	return files, places, p.Imports
}

// count is how many nodes there are in there for which it holds.
func count(n ast.Node, holds func(ast.Node) bool) int {
	found := 0
	ast.Inspect(n, func(n ast.Node) bool {
		if n != nil && holds(n) {
			found++
		}
		return true
	})
	return found
}

// functions are those of the package.
func functions(t *testing.T) []*ast.FuncDecl {
	t.Helper()
	var all []*ast.FuncDecl
	files, _, _ := sources(t)
	for _, f := range files {
		for _, d := range f.Decls {
			if f, ok := d.(*ast.FuncDecl); ok {
				all = append(all, f)
			}
		}
	}
	return all
}

// The chapter has it: of the project's packages it imports api, labels, regex and text.
func TestImports(t *testing.T) {
	_, _, imports := sources(t)
	for _, path := range imports {
		if !slices.Contains([]string{"barograph/api", "barograph/labels", "barograph/regex", "barograph/text"}, path) {
			t.Errorf("package match imports %s", path)
		}
	}
}

func TestNothingIsKeptBetweenCalls(t *testing.T) {
	files, _, _ := sources(t)
	for _, f := range files {
		for _, d := range f.Decls {
			if g, ok := d.(*ast.GenDecl); ok && g.Tok == token.VAR {
				t.Error("a variable of the package would be kept from call to call")
			}
		}
	}
}

// No function is longer than some sixty lines, so that each can be taken in.
func TestFunctionsAreShort(t *testing.T) {
	files, places, _ := sources(t)
	for _, f := range files {
		for _, d := range f.Decls {
			if lines := places.Position(d.End()).Line - places.Position(d.Pos()).Line; lines > 60 {
				t.Errorf("%v: %d lines", places.Position(d.Pos()), lines)
			}
		}
	}
}

// withFunctions are the names of the structs that have a function in a field.
func withFunctions(t *testing.T) []string {
	t.Helper()
	var names []string
	files, _, _ := sources(t)
	for _, f := range files {
		count(f, func(n ast.Node) bool {
			s, ok := n.(*ast.TypeSpec)
			if !ok {
				return false
			}
			x, ok := s.Type.(*ast.StructType)
			if !ok {
				return false
			}
			for _, field := range x.Fields.List {
				if _, ok := field.Type.(*ast.FuncType); ok {
					names = append(names, s.Name.Name)
				}
			}
			return false
		})
	}
	return names
}

// The chapter asks for it: the four kinds are described by a table, built by a function, of structs with a function in a field.
func TestKindsAreATableOfStructsWithAFunction(t *testing.T) {
	names, tables := withFunctions(t), 0
	for _, f := range functions(t) {
		tables += count(f, func(n ast.Node) bool {
			r, ok := n.(*ast.ReturnStmt)
			if !ok || len(r.Results) != 1 {
				return false
			}
			l, ok := r.Results[0].(*ast.CompositeLit)
			if !ok || len(l.Elts) != 4 {
				return false
			}
			a, ok := l.Type.(*ast.ArrayType)
			if !ok {
				return false
			}
			of, ok := a.Elt.(*ast.Ident)
			return ok && slices.Contains(names, of.Name)
		})
	}
	if tables != 1 {
		t.Errorf("%d tables of kinds, of structs %v", tables, names)
	}
}

// The chapter asks for it: a negative kind is the positive one, inverted by a closure. One function is handed the positive one, and answers a closure that says the opposite.
func TestNegativeKindsAreInvertedByAClosure(t *testing.T) {
	inverts := 0
	for _, f := range functions(t) {
		if count(f.Type.Params, func(n ast.Node) bool { _, ok := n.(*ast.FuncType); return ok }) == 0 {
			continue
		}
		inverts += count(f, func(n ast.Node) bool {
			l, ok := n.(*ast.FuncLit)
			if !ok || len(l.Body.List) != 1 {
				return false
			}
			r, ok := l.Body.List[0].(*ast.ReturnStmt)
			if !ok || len(r.Results) != 1 {
				return false
			}
			not, ok := r.Results[0].(*ast.UnaryExpr)
			if !ok || not.Op != token.NOT {
				return false
			}
			_, ok = not.X.(*ast.CallExpr)
			return ok
		})
	}
	if inverts != 1 {
		t.Errorf("%d closures invert a kind", inverts)
	}
}
