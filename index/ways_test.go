package index_test

import (
	"go/ast"
	"go/build"
	"go/parser"
	"go/token"
	"go/types"
	"slices"
	"testing"
)

// sources are the files of the package, without its tests, where they are, and what they import.
func sources(t *testing.T) (files []*ast.File, places *token.FileSet, imports []string) {
	t.Helper()
	p, err := build.ImportDir(".", 0)
	if err != nil {
		t.Fatal(err)
	}
	places = token.NewFileSet()
	for _, name := range p.GoFiles {
		f, err := parser.ParseFile(places, name, nil, 0)
		if err != nil {
			t.Fatal(err)
		}
		files = append(files, f)
	}
	return files, places, p.Imports
}

// find are the nodes in there of a kind for which it holds.
func find[N ast.Node](in ast.Node, holds func(N) bool) []N {
	var found []N
	ast.Inspect(in, func(n ast.Node) bool {
		if x, ok := n.(N); ok && holds(x) {
			found = append(found, x)
		}
		return true
	})
	return found
}

// findAll are those in all files of the package.
func findAll[N ast.Node](t *testing.T, holds func(N) bool) []N {
	t.Helper()
	var found []N
	files, _, _ := sources(t)
	for _, f := range files {
		found = append(found, find(f, holds)...)
	}
	return found
}

// calls tells whether something there calls what is written so.
func calls(in ast.Node, what string) bool {
	return len(find(in, func(c *ast.CallExpr) bool { return types.ExprString(c.Fun) == what })) > 0
}

// The chapter has it: of the project's packages it imports api, crc, labels, match and postings; it needs little of the library.
func TestImports(t *testing.T) {
	_, _, imports := sources(t)
	for _, path := range imports {
		if !slices.Contains([]string{"barograph/api", "barograph/crc", "barograph/labels", "barograph/match", "barograph/postings", "bytes", "errors", "maps", "math", "slices"}, path) {
			t.Errorf("package index imports %s", path)
		}
	}
}

// A variable of the package is an error; any other one would be kept from call to call.
func TestNothingIsKeptBetweenCalls(t *testing.T) {
	files, _, _ := sources(t)
	for _, f := range files {
		for _, d := range f.Decls {
			g, ok := d.(*ast.GenDecl)
			if !ok || g.Tok != token.VAR {
				continue
			}
			for _, s := range g.Specs {
				for _, v := range s.(*ast.ValueSpec).Values {
					if !calls(v, "errors.New") {
						t.Error("a variable of the package is not an error")
					}
				}
			}
		}
	}
}

// No function is longer than some sixty lines, so that each can be taken in.
func TestFunctionsAreShort(t *testing.T) {
	files, places, _ := sources(t)
	for _, f := range files {
		for _, d := range f.Decls {
			if lines := places.Position(d.End()).Line - places.Position(d.Pos()).Line; lines > 60 {
				t.Errorf("%v: %d lines", places.Position(d.Pos()), lines)
			}
		}
	}
}

// The chapter asks for it: sections are written by a struct that embeds the bytes written so far.
func TestSectionsAreWrittenByAStructThatEmbedsTheBytes(t *testing.T) {
	lists := map[string]bool{}
	for _, s := range findAll(t, func(s *ast.TypeSpec) bool { return types.ExprString(s.Type) == "[]byte" }) {
		lists[s.Name.Name] = true
	}
	writers := map[string]bool{}
	for _, s := range findAll(t, func(*ast.TypeSpec) bool { return true }) {
		if x, ok := s.Type.(*ast.StructType); ok {
			for _, f := range x.Fields.List {
				if len(f.Names) == 0 && lists[types.ExprString(f.Type)] {
					writers["*"+s.Name.Name] = true
				}
			}
		}
	}
	sections := 0
	for _, f := range findAll(t, func(f *ast.FuncDecl) bool {
		return slices.Contains([]string{"symbols", "entries", "postings"}, f.Name.Name)
	}) {
		if f.Recv != nil && writers[types.ExprString(f.Recv.List[0].Type)] {
			sections++
		}
	}
	if sections != 3 {
		t.Errorf("%d sections are written by a struct that embeds bytes", sections)
	}
}

// The chapter asks for it: malformed input is rejected by a panic that is recovered in a deferred function.
func TestMalformedInputIsRejectedByAPanic(t *testing.T) {
	rejecting := findAll(t, func(f *ast.FuncDecl) bool { return calls(f, "panic") && !calls(f, "recover") })
	recovered := findAll(t, func(d *ast.DeferStmt) bool {
		f, ok := d.Call.Fun.(*ast.FuncLit)
		return ok && calls(f, "recover")
	})
	if len(rejecting) == 0 || len(recovered) != 1 {
		t.Errorf("%d functions panic, recovered in %d deferred functions", len(rejecting), len(recovered))
	}
}
