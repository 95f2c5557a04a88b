package tests

import (
	"go/ast"
	"go/parser"
	"go/token"
	"path/filepath"
	"slices"
	"strconv"
	"strings"
	"testing"
)

// allowedImports is what the language page lets the program import.
const allowedImports = "bytes cmp container/heap errors iter maps math math/bits slices sort strconv strings sync sync/atomic unicode unicode/utf8"

// programFiles is the Go files of the program, tests left out.
func programFiles(t *testing.T) (*token.FileSet, []*ast.File) {
	paths, err := filepath.Glob("../impl/*.go")
	if err != nil || len(paths) == 0 {
		t.Fatal("no program", err)
	}
	fset := token.NewFileSet()
	var files []*ast.File
	for _, p := range paths {
		if strings.HasSuffix(p, "_test.go") {
			continue
		}
		f, err := parser.ParseFile(fset, p, nil, parser.ParseComments)
		if err != nil {
			t.Fatal(err)
		}
		files = append(files, f)
	}
	return fset, files
}

func TestProgramImportsOnlyWhatItMay(t *testing.T) {
	_, files := programFiles(t)
	for _, f := range files {
		for _, i := range f.Imports {
			path, _ := strconv.Unquote(i.Path.Value)
			if !slices.Contains(strings.Fields(allowedImports), path) {
				t.Error(path)
			}
		}
	}
}

func TestProgramHasNoDirectives(t *testing.T) {
	_, files := programFiles(t)
	for _, f := range files {
		for _, g := range f.Comments {
			for _, c := range g.List {
				if strings.HasPrefix(c.Text, "//go:") || strings.HasPrefix(c.Text, "// +build") {
					t.Error(c.Text)
				}
			}
		}
	}
}

func TestProgramFunctionsAreSmall(t *testing.T) {
	fset, files := programFiles(t)
	for _, f := range files {
		for _, d := range f.Decls {
			lines := fset.Position(d.End()).Line - fset.Position(d.Pos()).Line + 1
			if fn, ok := d.(*ast.FuncDecl); ok && lines > 60 {
				t.Error(fn.Name.Name, lines)
			}
		}
	}
}
