package crc

import (
	"go/ast"
	"go/parser"
	"go/token"
	"path/filepath"
	"strings"
	"testing"
)

// The chapter asks for an array of sixteen numbers: the remainders of all half bytes.
func TestRemaindersOfHalfBytes(t *testing.T) {
	var table [16]uint32 = remainders()
	for half := range table {
		want := uint32(half)
		for range 4 {
			low := want & 1
			want >>= 1
			if low == 1 {
				want ^= 0x82f63b78
			}
		}
		if table[half] != want {
			t.Errorf("half byte %x: %08x, want %08x", half, table[half], want)
		}
	}
}

// What one call has made of its array, no other one sees.
func TestRemaindersAreBuiltAnew(t *testing.T) {
	first := remainders()
	want := first
	clear(first[:])
	if remainders() != want {
		t.Error("the array of a call is shared with another one")
	}
}

// sources are the files of the package, without its tests.
func sources(t *testing.T) []*ast.File {
	t.Helper()
	names, err := filepath.Glob("*.go")
	if err != nil {
		t.Fatal(err)
	}
	var files []*ast.File
	for _, name := range names {
		if strings.HasSuffix(name, "_test.go") {
			continue
		}
		f, err := parser.ParseFile(token.NewFileSet(), name, nil, 0)
		if err != nil {
			t.Fatal(err)
		}
		files = append(files, f)
	}
	if len(files) == 0 {
		t.Fatal("the package has no file")
	}
	return files
}

func TestImportsNothing(t *testing.T) {
	for _, f := range sources(t) {
		for _, i := range f.Imports {
			t.Errorf("package crc imports %s", i.Path.Value)
		}
	}
}

func TestNoVariableOfThePackage(t *testing.T) {
	for _, f := range sources(t) {
		for _, d := range f.Decls {
			if g, ok := d.(*ast.GenDecl); ok && g.Tok == token.VAR {
				t.Error("a variable of the package would be kept from call to call")
			}
		}
	}
}
