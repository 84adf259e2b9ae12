package regex_test

import (
	"go/ast"
	"go/build"
	"go/parser"
	"go/token"
	"slices"
	"testing"
)

// sources are the files of the package, without its tests, and what they import.
func sources(t *testing.T) (files []*ast.File, imports []string) {
	t.Helper()
	p, err := build.ImportDir(".", 0)
	if err != nil {
		t.Fatal(err)
	}
	for _, name := range p.GoFiles {
		f, err := parser.ParseFile(token.NewFileSet(), name, nil, 0)
		if err != nil {
			t.Fatal(err)
		}
		files = append(files, f)
	}
	return files, p.Imports
}

// count is how many nodes there are in the package for which it holds.
func count(t *testing.T, holds func(ast.Node) bool) int {
	t.Helper()
	found := 0
	files, _ := sources(t)
	for _, f := range files {
		ast.Inspect(f, func(n ast.Node) bool {
			if n != nil && holds(n) {
				found++
			}
			return true
		})
	}
	return found
}

// The chapter has it: of the project's packages it imports api only.
func TestImports(t *testing.T) {
	_, imports := sources(t)
	for _, path := range imports {
		if !slices.Contains([]string{"barograph/api", "math/bits", "strings"}, path) {
			t.Errorf("package regex imports %s", path)
		}
	}
}

func TestNothingIsKeptBetweenCalls(t *testing.T) {
	files, _ := sources(t)
	for _, f := range files {
		for _, d := range f.Decls {
			if g, ok := d.(*ast.GenDecl); ok && g.Tok == token.VAR {
				t.Error("a variable of the package would be kept from call to call")
			}
		}
	}
}

// The chapter asks for it: the machine processes lists of states that are swapped.
func TestListsOfStatesAreSwapped(t *testing.T) {
	swaps := count(t, func(n ast.Node) bool {
		a, ok := n.(*ast.AssignStmt)
		if !ok || len(a.Lhs) != 2 || len(a.Rhs) != 2 {
			return false
		}
		first, isField := a.Lhs[0].(*ast.SelectorExpr)
		second, isToo := a.Lhs[1].(*ast.SelectorExpr)
		from, isList := a.Rhs[0].(*ast.SelectorExpr)
		cut, isCut := a.Rhs[1].(*ast.SliceExpr)
		if !isField || !isToo || !isList || !isCut {
			return false
		}
		old, ok := cut.X.(*ast.SelectorExpr)
		return ok && from.Sel.Name == second.Sel.Name && old.Sel.Name == first.Sel.Name
	})
	if swaps == 0 {
		t.Error("no lists are swapped")
	}
}

// The chapter asks for it: a label leaves the loops, from within one that is in another one.
func TestALabelLeavesTheLoops(t *testing.T) {
	left := count(t, func(n ast.Node) bool {
		l, ok := n.(*ast.LabeledStmt)
		if !ok {
			return false
		}
		outer, ok := l.Stmt.(*ast.ForStmt)
		if !ok {
			return false
		}
		breaks := 0
		ast.Inspect(outer.Body, func(n ast.Node) bool {
			inner, ok := n.(*ast.RangeStmt)
			if !ok {
				return true
			}
			ast.Inspect(inner, func(n ast.Node) bool {
				if b, ok := n.(*ast.BranchStmt); ok && b.Tok == token.BREAK && b.Label != nil && b.Label.Name == l.Label.Name {
					breaks++
				}
				return true
			})
			return true
		})
		return breaks > 0
	})
	if left == 0 {
		t.Error("no label leaves the loops")
	}
}

// The chapter asks for it: instructions are a struct, whose kinds are handled in a switch with fallthrough.
func TestKindsOfInstructionsAreHandledInASwitch(t *testing.T) {
	structs := count(t, func(n ast.Node) bool {
		s, ok := n.(*ast.TypeSpec)
		if !ok || s.Name.Name != "instruction" {
			return false
		}
		_, ok = s.Type.(*ast.StructType)
		return ok
	})
	switches := count(t, func(n ast.Node) bool {
		f, ok := n.(*ast.FuncDecl)
		return ok && f.Recv != nil && handlesKinds(f)
	})
	if structs != 1 || switches == 0 {
		t.Errorf("%d structs of instructions, %d switches", structs, switches)
	}
}

// handlesKinds tells whether a function of the machine has a switch of an instruction's kind, with a fallthrough.
func handlesKinds(f *ast.FuncDecl) bool {
	handles := false
	ast.Inspect(f, func(n ast.Node) bool {
		s, ok := n.(*ast.SwitchStmt)
		if !ok {
			return true
		}
		tag, ok := s.Tag.(*ast.SelectorExpr)
		x, isName := f.Recv.List[0].Type.(*ast.StarExpr)
		if !ok || !isName || tag.Sel.Name != "kind" || x.X.(*ast.Ident).Name != "machine" {
			return true
		}
		ast.Inspect(s, func(n ast.Node) bool {
			if b, ok := n.(*ast.BranchStmt); ok && b.Tok == token.FALLTHROUGH {
				handles = true
			}
			return true
		})
		return true
	})
	return handles
}

// No function is longer than some sixty lines, so that each can be taken in.
func TestFunctionsAreShort(t *testing.T) {
	p, err := build.ImportDir(".", 0)
	if err != nil {
		t.Fatal(err)
	}
	for _, name := range p.GoFiles {
		set := token.NewFileSet()
		f, err := parser.ParseFile(set, name, nil, 0)
		if err != nil {
			t.Fatal(err)
		}
		for _, d := range f.Decls {
			if lines := set.Position(d.End()).Line - set.Position(d.Pos()).Line; lines > 60 {
				t.Errorf("%s: %d lines", set.Position(d.Pos()), lines)
			}
		}
	}
}
