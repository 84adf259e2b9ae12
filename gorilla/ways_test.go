package gorilla_test

import (
	"go/ast"
	"go/build"
	"go/parser"
	"go/token"
	"slices"
	"strings"
	"testing"
)

// sources are the files of the package, without its tests, where they are, and what they import.
func sources(t *testing.T) (files []*ast.File, places *token.FileSet, imports []string) {
	t.Helper()
	p, err := build.ImportDir(".", 0)
	if err != nil {
		t.Fatal(err)
	}
	places = token.NewFileSet()
	for _, name := range p.GoFiles {
		f, err := parser.ParseFile(places, name, nil, 0)
		if err != nil {
			t.Fatal(err)
		}
		files = append(files, f)
	}
	return files, places, p.Imports
}

// find are the nodes in there of a kind for which it holds.
func find[N ast.Node](n ast.Node, holds func(N) bool) []N {
	var found []N
	ast.Inspect(n, func(n ast.Node) bool {
		if x, ok := n.(N); ok && holds(x) {
			found = append(found, x)
		}
		return true
	})
	return found
}

// functions are those of the package.
func functions(t *testing.T) []*ast.FuncDecl {
	t.Helper()
	var all []*ast.FuncDecl
	files, _, _ := sources(t)
	for _, f := range files {
		all = append(all, find(f, func(*ast.FuncDecl) bool { return true })...)
	}
	return all
}

// The chapter has it: of the project's packages it imports api and bits.
func TestImports(t *testing.T) {
	_, _, imports := sources(t)
	for _, path := range imports {
		if strings.HasPrefix(path, "barograph/") && path != "barograph/api" && path != "barograph/bits" {
			t.Errorf("package gorilla imports %s", path)
		}
	}
}

func TestNothingIsKeptBetweenCalls(t *testing.T) {
	files, _, _ := sources(t)
	for _, f := range files {
		for _, d := range f.Decls {
			if g, ok := d.(*ast.GenDecl); ok && g.Tok == token.VAR {
				t.Error("a variable of the package would be kept from call to call")
			}
		}
	}
}

// No function is longer than some sixty lines, so that each can be taken in.
func TestFunctionsAreShort(t *testing.T) {
	files, places, _ := sources(t)
	for _, f := range files {
		for _, d := range f.Decls {
			if lines := places.Position(d.End()).Line - places.Position(d.Pos()).Line; lines > 60 {
				t.Errorf("%v: %d lines", places.Position(d.Pos()), lines)
			}
		}
	}
}

// leavesByLabel tells whether a loop over a list of that name is left by its label.
func leavesByLabel(f *ast.FuncDecl, name string) bool {
	for _, l := range find(f, func(l *ast.LabeledStmt) bool { return true }) {
		loop, ok := l.Stmt.(*ast.RangeStmt)
		if !ok {
			continue
		}
		over, ok := loop.X.(*ast.Ident)
		leaves := find(loop, func(b *ast.BranchStmt) bool {
			return b.Tok == token.BREAK && b.Label != nil && b.Label.Name == l.Label.Name
		})
		if ok && over.Name == name && len(leaves) > 0 {
			return true
		}
	}
	return false
}

// The chapter asks for it: the rows of the table of times are a small table of constants within a function, which is searched with a label.
func TestTableOfTimesIsSearchedWithALabel(t *testing.T) {
	searched := 0
	for _, f := range functions(t) {
		for _, a := range find(f, func(a *ast.AssignStmt) bool { return a.Tok == token.DEFINE && len(a.Rhs) == 1 }) {
			table, ok := a.Rhs[0].(*ast.CompositeLit)
			if !ok || len(table.Elts) != 5 {
				continue
			}
			if name, ok := a.Lhs[0].(*ast.Ident); ok && leavesByLabel(f, name.Name) {
				searched++
			}
		}
	}
	if searched != 1 {
		t.Errorf("%d functions have the table, and search it with a label", searched)
	}
}

// The chapter asks for it: All is a function to range over. One function literal takes yield, and ends once that says so; and the package ranges over what it is the answer of.
func TestAllIsAFunctionToRangeOver(t *testing.T) {
	var makers []string
	for _, f := range functions(t) {
		yields := find(f, func(l *ast.FuncLit) bool {
			p := l.Type.Params.List
			if len(p) != 1 || len(p[0].Names) != 1 {
				return false
			}
			_, takesFunction := p[0].Type.(*ast.FuncType)
			asked := find(l, func(u *ast.UnaryExpr) bool {
				c, ok := u.X.(*ast.CallExpr)
				if !ok || u.Op != token.NOT {
					return false
				}
				id, ok := c.Fun.(*ast.Ident)
				return ok && id.Name == p[0].Names[0].Name
			})
			return takesFunction && len(asked) == 1
		})
		if len(yields) > 0 {
			makers = append(makers, f.Name.Name)
		}
	}
	if len(makers) != 1 {
		t.Fatalf("functions that can be ranged over are made by %v", makers)
	}
	ranged := 0
	for _, f := range functions(t) {
		ranged += len(find(f, func(r *ast.RangeStmt) bool {
			c, ok := r.X.(*ast.CallExpr)
			if !ok {
				return false
			}
			id, ok := c.Fun.(*ast.Ident)
			return ok && slices.Contains(append(makers, "All"), id.Name)
		}))
	}
	if ranged == 0 {
		t.Error("the package itself never ranges over samples")
	}
}
