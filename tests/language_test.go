package tests

import (
	"bytes"
	"go/ast"
	"go/format"
	"go/parser"
	"go/token"
	"os"
	"path/filepath"
	"slices"
	"strings"
	"testing"
)

// allowed are the packages that the language page lets the program import.
var allowed = strings.Fields("bytes cmp container/heap errors iter maps math math/bits slices sort strconv strings sync sync/atomic unicode unicode/utf8")

// longest is how many lines a function of the program may have.
const longest = 60

func TestProgramKeepsToTheLanguagePage(t *testing.T) {
	paths, err := filepath.Glob("../impl/*")
	if err != nil || len(paths) != 14 {
		t.Fatalf("not the 14 layers: %v %v", paths, err)
	}
	for _, path := range paths {
		source, err := os.ReadFile(path)
		if err != nil {
			t.Fatal(err)
		}
		if laidOut, err := format.Source(source); err != nil || !bytes.Equal(laidOut, source) {
			t.Errorf("%s: not gofmt's layout: %v", path, err)
		}
		fset := token.NewFileSet()
		file, err := parser.ParseFile(fset, path, source, parser.ParseComments)
		if err != nil {
			t.Fatal(err)
		}
		checkFile(t, fset, file)
	}
}

func checkFile(t *testing.T, fset *token.FileSet, file *ast.File) {
	t.Helper()
	for _, i := range file.Imports {
		if !slices.Contains(allowed, strings.Trim(i.Path.Value, `"`)) {
			t.Errorf("%s: import %s", fset.Position(i.Pos()), i.Path.Value)
		}
	}
	for _, group := range file.Comments {
		for _, c := range group.List {
			if strings.HasPrefix(c.Text, "//go:") || strings.HasPrefix(c.Text, "// +build") {
				t.Errorf("%s: %s", fset.Position(c.Pos()), c.Text)
			}
		}
	}
	for _, d := range file.Decls {
		if f, ok := d.(*ast.FuncDecl); ok && fset.Position(f.End()).Line-fset.Position(f.Pos()).Line >= longest {
			t.Errorf("%s: %s is too long", fset.Position(f.Pos()), f.Name.Name)
		}
	}
}
