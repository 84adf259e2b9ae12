package text

import (
	"errors"
	"go/ast"
	"go/parser"
	"go/token"
	"os"
	"slices"
	"strconv"
	"strings"
	"testing"

	"barograph/api"
)

// sources are the files of the package, without its tests.
func sources(t *testing.T) []*ast.File {
	t.Helper()
	entries, err := os.ReadDir(".")
	if err != nil {
		t.Fatal(err)
	}
	var files []*ast.File
	for _, entry := range entries {
		name := entry.Name()
		if !strings.HasSuffix(name, ".go") || strings.HasSuffix(name, "_test.go") {
			continue
		}
		f, err := parser.ParseFile(token.NewFileSet(), name, nil, 0)
		if err != nil {
			t.Fatal(err)
		}
		files = append(files, f)
	}
	if len(files) == 0 {
		t.Fatal("the package has no file")
	}
	return files
}

// function is the one of the package that has this name.
func function(t *testing.T, name string) *ast.FuncDecl {
	t.Helper()
	for _, file := range sources(t) {
		for _, d := range file.Decls {
			if f, ok := d.(*ast.FuncDecl); ok && f.Name.Name == name {
				return f
			}
		}
	}
	t.Fatalf("there is no function %s", name)
	return nil
}

// count is how many nodes there are in there for which it holds.
func count(n ast.Node, holds func(ast.Node) bool) int {
	found := 0
	ast.Inspect(n, func(n ast.Node) bool {
		if n != nil && holds(n) {
			found++
		}
		return true
	})
	return found
}

// The package takes api and num of the project's packages, and keeps nothing.
func TestImportsApiAndNumAndKeepsNothing(t *testing.T) {
	for _, f := range sources(t) {
		for _, i := range f.Imports {
			if p := i.Path.Value; !slices.Contains([]string{`"barograph/api"`, `"barograph/num"`, `"errors"`, `"math"`, `"slices"`, `"strconv"`, `"strings"`, `"unicode/utf8"`}, p) {
				t.Errorf("package text imports %s", p)
			}
		}
		for _, d := range f.Decls {
			if g, ok := d.(*ast.GenDecl); ok && g.Tok == token.VAR {
				t.Error("a variable of the package would be kept from call to call")
			}
		}
	}
}

// The chapter asks for it: a string is read by a small reader with a position, and the exported functions inspect its errors with errors.As.
func TestExportedFunctionsInspectErrors(t *testing.T) {
	for _, name := range []string{"Number", "ReadDuration", "ReadTime", "Unquote"} {
		f := function(t, name)
		readers := count(f, func(n ast.Node) bool {
			c, ok := n.(*ast.CompositeLit)
			if !ok {
				return false
			}
			id, ok := c.Type.(*ast.Ident)
			return ok && id.Name == "reader"
		})
		asks := count(f, func(n ast.Node) bool {
			s, ok := n.(*ast.SelectorExpr)
			return ok && s.Sel.Name == "As"
		})
		if readers == 0 || asks == 0 {
			t.Errorf("%s has %d readers, and asks errors.As %d times", name, readers, asks)
		}
	}
}

// The chapter asks for it: escapes are handled in a switch with fallthrough.
func TestEscapesAreHandledInASwitchWithFallthrough(t *testing.T) {
	within := 0
	ast.Inspect(function(t, "escape"), func(n ast.Node) bool {
		if s, ok := n.(*ast.SwitchStmt); ok {
			within += count(s, func(n ast.Node) bool {
				b, ok := n.(*ast.BranchStmt)
				return ok && b.Tok == token.FALLTHROUGH
			})
		}
		return true
	})
	if within == 0 {
		t.Error("no escape falls through to another one")
	}
}

// errorsOf is an error and what it wraps, from the outside in.
func errorsOf(err error) []string {
	var all []string
	for ; err != nil; err = errors.Unwrap(err) {
		switch e := err.(type) {
		case *fault:
			all = append(all, e.errno.Error()+" at "+strconv.Itoa(e.at))
		case *ended:
			all = append(all, "end at "+strconv.Itoa(e.at))
		case api.Errno:
			all = append(all, e.Error())
		default:
			all = append(all, "the library's")
		}
	}
	return all
}

// The chapter asks for it: a reader's errors wrap one another, a number's within a duration's; each has its place.
func TestErrorsWrapOneAnother(t *testing.T) {
	number := func(r *reader) error { _, err := r.number(); return err }
	duration := func(r *reader) error { _, err := r.duration(); return err }
	time := func(r *reader) error { _, err := r.time(); return err }
	quoted := func(r *reader) error { _, err := r.quoted(); return err }
	for _, x := range []struct {
		s    string
		read func(r *reader) error
		want []string
	}{
		{"-", number, []string{"errno 40 at 0", "end at 1"}},
		{"1x", number, []string{"errno 40 at 0", "errno 40 at 1"}},
		{"1e+", number, []string{"errno 40 at 0", "end at 3"}},
		{"0xg", number, []string{"errno 40 at 0", "errno 40 at 2"}},
		{"1.5", number, nil},
		{"1h5", duration, []string{"errno 41 at 2", "errno 41 at 3"}},
		{"1hm", duration, []string{"errno 41 at 0", "errno 41 at 1"}},
		{"1h2h", duration, []string{"errno 41 at 2", "errno 41 at 3"}},
		{"m", duration, []string{"errno 41 at 0", "errno 40 at 0"}},
		{"", duration, []string{"errno 41 at 0", "end at 0"}},
		{"9007199254740993ms", duration, []string{"errno 41 at 0", "errno 41"}},
		{"1h99999999999999999999ms", duration, []string{"errno 41 at 2", "errno 40 at 2", "the library's", "the library's"}},
		{"1h5m", duration, nil},
		{"-1.", time, []string{"errno 41 at 0", "end at 3"}},
		{"1.2345", time, []string{"errno 41 at 0", "errno 41 at 2"}},
		{"1.5", time, nil},
		{`"a\x4g"`, quoted, []string{"errno 42 at 2", "errno 42 at 5"}},
		{`"a\x4`, quoted, []string{"errno 42 at 2", "end at 5"}},
		{`"a\ud800"`, quoted, []string{"errno 42 at 2", "errno 42"}},
		{`"a\q"`, quoted, []string{"errno 42 at 2", "errno 42 at 3"}},
		{`"a\`, quoted, []string{"errno 42 at 2", "end at 3"}},
		{`"a`, quoted, []string{"end at 2"}},
		{"\"a\n", quoted, []string{"errno 42 at 2"}},
		{`"a"`, quoted, nil},
	} {
		if got := errorsOf(x.read(&reader{s: x.s})); !slices.Equal(got, x.want) {
			t.Errorf("%q: %q, want %q", x.s, got, x.want)
		}
	}
}

func TestErrorsTellTheirPlace(t *testing.T) {
	for _, x := range []struct {
		err  error
		want string
	}{
		{&fault{api.ErrTextQuote, 3, nil}, "errno 42 at 3"},
		{&ended{4}, "the end at 4"},
		{&fault{api.ErrTextTime, 2, &fault{api.ErrTextNumber, 5, &ended{7}}}, "errno 41 at 2: errno 40 at 5: the end at 7"},
	} {
		if got := x.err.Error(); got != x.want {
			t.Errorf("%q, want %q", got, x.want)
		}
	}
}
