package frame_test

import (
	"go/ast"
	"go/build"
	"go/parser"
	"go/token"
	"slices"
	"testing"
)

// sources are the files of the package, without its tests, where they are, and what they import.
func sources(t *testing.T) (files []*ast.File, places *token.FileSet, imports []string) {
	t.Helper()
	p, err := build.ImportDir(".", 0)
	if err != nil {
		t.Fatal(err)
	}
	places = token.NewFileSet()
	for _, name := range p.GoFiles {
		f, err := parser.ParseFile(places, name, nil, 0)
		if err != nil {
			t.Fatal(err)
		}
		files = append(files, f)
	}
	return files, places, p.Imports
}

// find are the nodes of the package of a kind for which it holds.
func find[N ast.Node](t *testing.T, holds func(N) bool) []N {
	t.Helper()
	var found []N
	files, _, _ := sources(t)
	for _, f := range files {
		ast.Inspect(f, func(n ast.Node) bool {
			if x, ok := n.(N); ok && holds(x) {
				found = append(found, x)
			}
			return true
		})
	}
	return found
}

// The chapter has it: of the project's packages it imports api and crc; it needs little of the library.
func TestImports(t *testing.T) {
	_, _, imports := sources(t)
	for _, path := range imports {
		if !slices.Contains([]string{"barograph/api", "barograph/crc", "bytes", "math"}, path) {
			t.Errorf("package frame imports %s", path)
		}
	}
}

func TestNothingIsKeptBetweenCalls(t *testing.T) {
	files, _, _ := sources(t)
	for _, f := range files {
		for _, d := range f.Decls {
			if g, ok := d.(*ast.GenDecl); ok && g.Tok == token.VAR {
				t.Error("a variable of the package would be kept from call to call")
			}
		}
	}
}

// No function is longer than some sixty lines, so that each can be taken in.
func TestFunctionsAreShort(t *testing.T) {
	files, places, _ := sources(t)
	for _, f := range files {
		for _, d := range f.Decls {
			if lines := places.Position(d.End()).Line - places.Position(d.Pos()).Line; lines > 60 {
				t.Errorf("%v: %d lines", places.Position(d.Pos()), lines)
			}
		}
	}
}

// The chapter asks for it: pieces are cut as three-index slices, both where a record is cut and where a sector is read.
func TestPiecesAreThreeIndexSlices(t *testing.T) {
	clipped := find(t, func(s *ast.SliceExpr) bool {
		high, ok := s.High.(*ast.Ident)
		if !ok || !s.Slice3 {
			return false
		}
		room, ok := s.Max.(*ast.Ident)
		return ok && room.Name == high.Name
	})
	if len(clipped) < 2 {
		t.Errorf("%d slices end where their memory does", len(clipped))
	}
}

// The chapter asks for it: kinds are handled in a switch with fallthrough.
func TestKindsAreHandledWithFallthrough(t *testing.T) {
	kinds := []string{"whole", "first", "middle", "last"}
	handled := find(t, func(s *ast.SwitchStmt) bool {
		falls := false
		for _, c := range s.Body.List {
			clause := c.(*ast.CaseClause)
			for _, x := range clause.List {
				if id, ok := x.(*ast.Ident); !ok || !slices.Contains(kinds, id.Name) {
					return false
				}
			}
			for _, x := range clause.Body {
				b, ok := x.(*ast.BranchStmt)
				falls = falls || ok && b.Tok == token.FALLTHROUGH
			}
		}
		return falls
	})
	if len(handled) != 1 {
		t.Errorf("%d switches over kinds fall through", len(handled))
	}
}
