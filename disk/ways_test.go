package disk_test

import (
	"go/ast"
	"go/build"
	"go/parser"
	"go/token"
	"maps"
	"slices"
	"testing"
)

// sources are the files of the package, without its tests, and what they import.
func sources(t *testing.T) (files []*ast.File, imports []string) {
	t.Helper()
	p, err := build.ImportDir(".", 0)
	if err != nil {
		t.Fatal(err)
	}
	for _, name := range p.GoFiles {
		f, err := parser.ParseFile(token.NewFileSet(), name, nil, 0)
		if err != nil {
			t.Fatal(err)
		}
		files = append(files, f)
	}
	return files, p.Imports
}

// The chapter has it: of the project's packages it imports api only; it needs little of the library.
func TestImports(t *testing.T) {
	_, imports := sources(t)
	for _, path := range imports {
		if !slices.Contains([]string{"barograph/api", "bytes", "maps", "slices"}, path) {
			t.Errorf("package disk imports %s", path)
		}
	}
}

func TestNothingIsKeptBetweenDisks(t *testing.T) {
	files, _ := sources(t)
	for _, f := range files {
		for _, d := range f.Decls {
			if g, ok := d.(*ast.GenDecl); ok && g.Tok == token.VAR {
				t.Error("a variable of the package would be shared by all disks")
			}
		}
	}
}

// The chapter asks for it: a sector is an array of 256 bytes.
func TestSectorIsAnArray(t *testing.T) {
	files, _ := sources(t)
	arrays := 0
	for _, f := range files {
		ast.Inspect(f, func(n ast.Node) bool {
			a, ok := n.(*ast.ArrayType)
			if !ok || a.Len == nil {
				return true
			}
			if elem, ok := a.Elt.(*ast.Ident); ok && elem.Name == "byte" && isSector(a.Len) {
				arrays++
			}
			return true
		})
	}
	if arrays == 0 {
		t.Error("there is no array of 256 bytes")
	}
}

func isSector(length ast.Expr) bool {
	switch x := length.(type) {
	case *ast.BasicLit:
		return x.Value == "256"
	case *ast.SelectorExpr:
		return x.Sel.Name == "Sector"
	}
	return false
}

// withClosure are the names of the functions that are passed a closure in there.
func withClosure(body ast.Node) map[string]int {
	found := map[string]int{}
	ast.Inspect(body, func(n ast.Node) bool {
		call, ok := n.(*ast.CallExpr)
		if !ok {
			return true
		}
		s, ok := call.Fun.(*ast.SelectorExpr)
		if !ok {
			return true
		}
		for _, arg := range call.Args {
			if _, ok := arg.(*ast.FuncLit); ok {
				found[s.Sel.Name] = 1
			}
		}
		return true
	})
	return found
}

// The chapter asks for it: the three operations use one function that is passed what is to be done as a closure.
func TestOperationsUseOneFunction(t *testing.T) {
	users := map[string]int{}
	files, _ := sources(t)
	for _, f := range files {
		for _, d := range f.Decls {
			if f, ok := d.(*ast.FuncDecl); ok && slices.Contains([]string{"Read", "Write", "Flush"}, f.Name.Name) {
				for name := range withClosure(f.Body) {
					users[name]++
				}
			}
		}
	}
	if !slices.Contains(slices.Collect(maps.Values(users)), 3) {
		t.Errorf("no function is passed a closure by all three operations: %v", users)
	}
}
