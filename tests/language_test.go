package tests

import (
	"bytes"
	"go/ast"
	"go/format"
	"go/parser"
	"go/token"
	"os"
	"path/filepath"
	"slices"
	"strconv"
	"testing"
)

var allowedImports = []string{
	"bytes", "cmp", "container/heap", "errors", "iter", "maps", "math", "math/bits", "slices", "sort",
	"strconv", "strings", "sync", "sync/atomic", "unicode", "unicode/utf8",
}

const mostLines = 60

// The language page's rules that a look at the text can tell: layout, imports, the length of functions.
func TestProgramKeepsToTheLanguage(t *testing.T) {
	files, err := filepath.Glob("../impl/*")
	if err != nil || len(files) == 0 {
		t.Fatal(files, err)
	}
	for _, name := range files {
		if filepath.Ext(name) != ".go" {
			t.Errorf("%s is no Go file", name)
			continue
		}
		checkFile(t, name)
	}
}

func checkFile(t *testing.T, name string) {
	text, err := os.ReadFile(name)
	if err != nil {
		t.Fatal(err)
	}
	if laid, err := format.Source(text); err != nil || !bytes.Equal(laid, text) {
		t.Errorf("%s has not gofmt's layout (%v)", name, err)
	}
	set := token.NewFileSet()
	file, err := parser.ParseFile(set, name, text, 0)
	if err != nil {
		t.Fatal(err)
	}
	for _, i := range file.Imports {
		if path, err := strconv.Unquote(i.Path.Value); err != nil || !slices.Contains(allowedImports, path) {
			t.Errorf("%s imports %s", name, i.Path.Value)
		}
	}
	for _, d := range file.Decls {
		if f, ok := d.(*ast.FuncDecl); ok {
			if n := set.Position(f.End()).Line - set.Position(f.Pos()).Line + 1; n > mostLines {
				t.Errorf("%s: %s has %d lines", name, f.Name.Name, n)
			}
		}
	}
}
