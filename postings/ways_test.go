package postings_test

import (
	"go/ast"
	"go/build"
	"go/parser"
	"go/token"
	"go/types"
	"slices"
	"strings"
	"testing"
)

// sources are the files of the package, without its tests, where they are, and what they import.
func sources(t *testing.T) (files []*ast.File, places *token.FileSet, imports []string) {
	t.Helper()
	p, err := build.ImportDir(".", 0)
	if err != nil {
		t.Fatal(err)
	}
	places = token.NewFileSet()
	for _, name := range p.GoFiles {
		f, err := parser.ParseFile(places, name, nil, 0)
		if err != nil {
			t.Fatal(err)
		}
		files = append(files, f)
	}
	return files, places, p.Imports
}

// find are the nodes in there of a kind for which it holds.
func find[N ast.Node](in ast.Node, holds func(N) bool) []N {
	var found []N
	ast.Inspect(in, func(n ast.Node) bool {
		if x, ok := n.(N); ok && holds(x) {
			found = append(found, x)
		}
		return true
	})
	return found
}

// functions are those of the package, methods with the names of their types ahead.
func functions(t *testing.T) map[string]*ast.FuncDecl {
	t.Helper()
	all := map[string]*ast.FuncDecl{}
	files, _, _ := sources(t)
	for _, f := range files {
		for _, f := range find(f, func(*ast.FuncDecl) bool { return true }) {
			name := f.Name.Name
			if f.Recv != nil {
				name = strings.TrimPrefix(types.ExprString(f.Recv.List[0].Type), "*") + "." + name
			}
			all[name] = f
		}
	}
	return all
}

// calls tells whether a function calls what is written so.
func calls(f *ast.FuncDecl, what string) bool {
	return len(find(f, func(c *ast.CallExpr) bool { return types.ExprString(c.Fun) == what })) > 0
}

// The chapter has it: of the project's packages it imports api, labels and match; it needs little of the library.
func TestImports(t *testing.T) {
	_, _, imports := sources(t)
	for _, path := range imports {
		if !slices.Contains([]string{"barograph/api", "barograph/labels", "barograph/match", "container/heap", "maps", "slices"}, path) {
			t.Errorf("package postings imports %s", path)
		}
	}
}

func TestNothingIsKeptBetweenIndexes(t *testing.T) {
	files, _, _ := sources(t)
	for _, f := range files {
		for _, d := range f.Decls {
			if g, ok := d.(*ast.GenDecl); ok && g.Tok == token.VAR {
				t.Error("a variable of the package would be kept from call to call")
			}
		}
	}
}

// No function is longer than some sixty lines, so that each can be taken in.
func TestFunctionsAreShort(t *testing.T) {
	files, places, _ := sources(t)
	for _, f := range files {
		for _, d := range f.Decls {
			if lines := places.Position(d.End()).Line - places.Position(d.Pos()).Line; lines > 60 {
				t.Errorf("%v: %d lines", places.Position(d.Pos()), lines)
			}
		}
	}
}

// The chapter asks for it: the index is a map of maps of lists.
func TestIndexIsAMapOfMapsOfLists(t *testing.T) {
	fields := 0
	files, _, _ := sources(t)
	for _, f := range files {
		for _, s := range find(f, func(s *ast.TypeSpec) bool { return s.Name.Name == "Index" }) {
			fields += len(find(s.Type, func(f *ast.Field) bool { return types.ExprString(f.Type) == "map[string]map[string][]int" }))
		}
	}
	if fields != 1 {
		t.Errorf("%d fields of the index are maps of maps of lists", fields)
	}
}

// The chapter asks for it: lists are merged by a variadic function with a heap of lists. And and Or leave it to one function.
func TestListsAreMergedByAVariadicFunctionWithAHeap(t *testing.T) {
	all := functions(t)
	for _, name := range []string{"And", "Or"} {
		if !calls(all[name], "merge") {
			t.Errorf("%s does not merge its lists by the one function", name)
		}
	}
	for _, name := range []string{"merge", "heapOf"} {
		params := all[name].Type.Params.List
		if last := params[len(params)-1].Type; types.ExprString(last) != "...[]int" {
			t.Errorf("%s takes %s", name, types.ExprString(last))
		}
	}
	if !calls(all["merge"], "heapOf") || !calls(all["heapOf"], "heap.Push") {
		t.Error("lists are not laid into a heap")
	}
	if f := all["lists.takeFirst"]; !calls(f, "heap.Pop") || !calls(f, "heap.Fix") {
		t.Error("numbers are not taken off a heap")
	}
}
