package extent_test

import (
	"go/ast"
	"go/build"
	"go/parser"
	"go/token"
	"slices"
	"testing"
)

// sources are the files of the package, without its tests, and what they import.
func sources(t *testing.T) (files []*ast.File, imports []string) {
	t.Helper()
	p, err := build.ImportDir(".", 0)
	if err != nil {
		t.Fatal(err)
	}
	for _, name := range p.GoFiles {
		f, err := parser.ParseFile(token.NewFileSet(), name, nil, 0)
		if err != nil {
			t.Fatal(err)
		}
		files = append(files, f)
	}
	return files, p.Imports
}

// count is how many nodes of the package there are for which it holds.
func count(t *testing.T, holds func(ast.Node) bool) int {
	t.Helper()
	found := 0
	files, _ := sources(t)
	for _, f := range files {
		ast.Inspect(f, func(n ast.Node) bool {
			if n != nil && holds(n) {
				found++
			}
			return true
		})
	}
	return found
}

// calls tells whether a node is a call of that name, of a package or a builtin.
func calls(n ast.Node, name string) (*ast.CallExpr, bool) {
	c, ok := n.(*ast.CallExpr)
	if !ok {
		return nil, false
	}
	switch f := c.Fun.(type) {
	case *ast.Ident:
		return c, f.Name == name
	case *ast.SelectorExpr:
		if x, ok := f.X.(*ast.Ident); ok {
			return c, x.Name+"."+f.Sel.Name == name
		}
	}
	return nil, false
}

// has tells whether there is a node in there for which it holds.
func has(n ast.Node, holds func(ast.Node) bool) bool {
	found := false
	ast.Inspect(n, func(n ast.Node) bool {
		found = found || n != nil && holds(n)
		return !found
	})
	return found
}

// The chapter has it: of the project's packages it imports api, crc and disk; it needs little of the library.
func TestImports(t *testing.T) {
	_, imports := sources(t)
	for _, path := range imports {
		if !slices.Contains([]string{"barograph/api", "barograph/crc", "barograph/disk", "errors", "maps", "slices"}, path) {
			t.Errorf("package extent imports %s", path)
		}
	}
}

// A variable of the package is an error; any other one would be shared by all stores.
func TestNothingIsKeptBetweenStores(t *testing.T) {
	files, _ := sources(t)
	for _, f := range files {
		for _, d := range f.Decls {
			g, ok := d.(*ast.GenDecl)
			if !ok || g.Tok != token.VAR {
				continue
			}
			for _, s := range g.Specs {
				for _, v := range s.(*ast.ValueSpec).Values {
					if _, ok := calls(v, "errors.New"); !ok {
						t.Error("a variable of the package is not an error")
					}
				}
			}
		}
	}
}

// The chapter asks for it: staged changes are undone by closures that were recorded when they were made.
func TestStagedChangesAreUndoneByClosures(t *testing.T) {
	lists := count(t, func(n ast.Node) bool {
		l, ok := n.(*ast.ArrayType)
		if !ok {
			return false
		}
		f, ok := l.Elt.(*ast.FuncType)
		return ok && len(f.Params.List) == 0 && f.Results == nil
	})
	recorded := count(t, func(n ast.Node) bool {
		c, ok := calls(n, "append")
		if !ok || len(c.Args) != 2 {
			return false
		}
		_, ok = c.Args[1].(*ast.FuncLit)
		return ok
	})
	if lists == 0 || recorded < 2 {
		t.Errorf("%d lists of functions, %d closures are recorded", lists, recorded)
	}
}

// The chapter asks for it: the directory is a map that is iterated by sorted names.
func TestDirectoryIsAMapIteratedBySortedNames(t *testing.T) {
	maps := count(t, func(n ast.Node) bool {
		s, ok := n.(*ast.TypeSpec)
		if !ok {
			return false
		}
		_, ok = s.Type.(*ast.MapType)
		return ok && s.Name.Name == "directory"
	})
	sorted := count(t, func(n ast.Node) bool {
		c, ok := calls(n, "slices.Sorted")
		if !ok {
			return false
		}
		_, ok = calls(c.Args[0], "maps.Keys")
		return ok
	})
	if maps != 1 || sorted == 0 {
		t.Errorf("%d directories are maps, names are sorted %d times", maps, sorted)
	}
}

// The chapter asks for it: malformed input is rejected by a panic that is recovered in a deferred function.
func TestMalformedInputIsRejectedByAPanic(t *testing.T) {
	panics := count(t, func(n ast.Node) bool {
		_, ok := calls(n, "panic")
		return ok
	})
	recovered := count(t, func(n ast.Node) bool {
		d, ok := n.(*ast.DeferStmt)
		if !ok {
			return false
		}
		f, ok := d.Call.Fun.(*ast.FuncLit)
		return ok && has(f.Body, func(n ast.Node) bool {
			_, ok := calls(n, "recover")
			return ok
		})
	})
	if panics == 0 || recovered != 1 {
		t.Errorf("%d panics, recovered in %d deferred functions", panics, recovered)
	}
}
