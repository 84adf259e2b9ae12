package num_test

import (
	"go/ast"
	"go/parser"
	"go/token"
	"os"
	"slices"
	"strings"
	"testing"
)

// sources are the files of the package, without its tests.
func sources(t *testing.T) []*ast.File {
	t.Helper()
	entries, err := os.ReadDir(".")
	if err != nil {
		t.Fatal(err)
	}
	var files []*ast.File
	for _, entry := range entries {
		name := entry.Name()
		if !strings.HasSuffix(name, ".go") || strings.HasSuffix(name, "_test.go") {
			continue
		}
		f, err := parser.ParseFile(token.NewFileSet(), name, nil, 0)
		if err != nil {
			t.Fatal(err)
		}
		files = append(files, f)
	}
	if len(files) == 0 {
		t.Fatal("the package has no file")
	}
	return files
}

// functionsOf are those of the package, by their names.
func functionsOf(t *testing.T) map[string]*ast.FuncDecl {
	all := map[string]*ast.FuncDecl{}
	for _, file := range sources(t) {
		for _, d := range file.Decls {
			if f, ok := d.(*ast.FuncDecl); ok {
				all[f.Name.Name] = f
			}
		}
	}
	return all
}

// calls are the calls in there of what has that name (of a package, or not).
func calls(n ast.Node, name string) []*ast.CallExpr {
	var all []*ast.CallExpr
	ast.Inspect(n, func(n ast.Node) bool {
		if c, ok := n.(*ast.CallExpr); ok {
			switch f := c.Fun.(type) {
			case *ast.Ident:
				if f.Name == name {
					all = append(all, c)
				}
			case *ast.SelectorExpr:
				if f.Sel.Name == name {
					all = append(all, c)
				}
			}
		}
		return true
	})
	return all
}

// The package takes api alone of the project's packages, and keeps nothing.
func TestImportsApiAloneAndKeepsNothing(t *testing.T) {
	for _, f := range sources(t) {
		for _, i := range f.Imports {
			if p := i.Path.Value; !slices.Contains([]string{`"barograph/api"`, `"math"`, `"cmp"`}, p) {
				t.Errorf("package num imports %s", p)
			}
		}
		for _, d := range f.Decls {
			if g, ok := d.(*ast.GenDecl); ok && g.Tok == token.VAR {
				t.Error("a variable of the package would be kept from call to call")
			}
		}
	}
}

// The chapter asks for it: the functions that evaluate a series use one function that is passed the way in which a term is combined.
func TestSeriesIsPassedAClosure(t *testing.T) {
	all := functionsOf(t)
	found := 0
	for name, f := range all {
		for _, c := range calls(f, "series") {
			if _, ok := c.Args[len(c.Args)-1].(*ast.FuncLit); !ok {
				t.Errorf("%s passes series no closure", name)
			}
			found++
		}
		loops := 0
		ast.Inspect(f, func(n ast.Node) bool {
			if _, ok := n.(*ast.ForStmt); ok {
				loops++
			}
			return true
		})
		// Mod shifts and Pow squares in a loop; every other one is that of the series.
		if loops > 0 && !slices.Contains([]string{"series", "remainder", "wholePower"}, name) {
			t.Errorf("%s has a loop of its own", name)
		}
	}
	if found < 4 {
		t.Errorf("series is called %d times", found)
	}
}

// The chapter asks for it: numbers become bits and are made of bits by math.Float64bits and its reverse.
func TestBitsAreConvertedByTheLibrary(t *testing.T) {
	there, back := 0, 0
	for _, f := range sources(t) {
		there += len(calls(f, "Float64bits"))
		back += len(calls(f, "Float64frombits"))
	}
	if there == 0 || back == 0 {
		t.Errorf("Float64bits is called %d times, Float64frombits %d times", there, back)
	}
}

// The chapter asks for it: each product is assigned to a value of its own. Its conversion is what keeps it from being fused with an addition.
func TestEachProductIsAValueOfItsOwn(t *testing.T) {
	products, alone := 0, 0
	for _, file := range sources(t) {
		ast.Inspect(file, func(n ast.Node) bool {
			switch x := n.(type) {
			case *ast.BinaryExpr:
				if x.Op == token.MUL {
					products++
				}
			case *ast.AssignStmt:
				for _, right := range x.Rhs {
					if isProduct(right, "float64") {
						alone++
					}
				}
				if x.Tok == token.MUL_ASSIGN {
					t.Error("a product without a conversion")
				}
			case *ast.CallExpr:
				// Products of integers are fused with nothing.
				if isProduct(x, "Int") {
					alone++
				}
			}
			return true
		})
	}
	if products == 0 || products != alone {
		t.Errorf("of %d products %d are values of their own", products, alone)
	}
}

// isProduct tells whether that is a product within a conversion, or a call, of that name.
func isProduct(e ast.Expr, name string) bool {
	c, ok := e.(*ast.CallExpr)
	if !ok || len(c.Args) != 1 {
		return false
	}
	f, ok := c.Fun.(*ast.Ident)
	if !ok || f.Name != name {
		return false
	}
	b, ok := c.Args[0].(*ast.BinaryExpr)
	return ok && b.Op == token.MUL
}
