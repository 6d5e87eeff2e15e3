package tests

import (
	"bytes"
	"go/ast"
	"go/format"
	"go/parser"
	"go/token"
	"os"
	"path/filepath"
	"slices"
	"strconv"
	"strings"
	"testing"
)

// What ../shared/LANGUAGE.md lets the program import.
var allowedImports = []string{
	"bytes", "cmp", "container/heap", "errors", "iter", "maps", "math", "math/big", "math/bits", "slices",
	"sort", "strconv", "strings", "sync", "sync/atomic", "unicode", "unicode/utf8",
}

const longestFunction = 60

func TestProgramKeepsToTheLanguage(t *testing.T) {
	files, err := filepath.Glob("../impl/*")
	if err != nil || len(files) == 0 {
		t.Fatal("no files of the program", err)
	}
	for _, name := range files {
		if !strings.HasSuffix(name, ".go") {
			t.Errorf("%s: not a Go file", name)
			continue
		}
		text, err := os.ReadFile(name)
		if err != nil {
			t.Fatal(err)
		}
		if laid, err := format.Source(text); err != nil || !bytes.Equal(laid, text) {
			t.Errorf("%s: not in gofmt's layout %v", name, err)
		}
		lookAtFile(t, name, text)
	}
}

func lookAtFile(t *testing.T, name string, text []byte) {
	fset := token.NewFileSet()
	file, err := parser.ParseFile(fset, name, text, parser.ParseComments)
	if err != nil {
		t.Fatal(err)
	}
	for _, spec := range file.Imports {
		if path, _ := strconv.Unquote(spec.Path.Value); !slices.Contains(allowedImports, path) {
			t.Errorf("%s: imports %s", name, path)
		}
	}
	for _, group := range file.Comments {
		for _, comment := range group.List {
			if strings.HasPrefix(comment.Text, "//go:") || strings.HasPrefix(comment.Text, "// +build") {
				t.Errorf("%s: has the line %s", name, comment.Text)
			}
		}
	}
	ast.Inspect(file, func(n ast.Node) bool {
		switch x := n.(type) {
		case *ast.FuncDecl:
			lines := fset.Position(x.End()).Line - fset.Position(x.Pos()).Line + 1
			if lines > longestFunction {
				t.Errorf("%s: %s has %d lines", name, x.Name.Name, lines)
			}
		case *ast.CallExpr:
			if id, ok := x.Fun.(*ast.Ident); ok && (id.Name == "print" || id.Name == "println") {
				t.Errorf("%s: prints", name)
			}
		}
		return true
	})
}
