package tests

import (
	"go/ast"
	"go/importer"
	"go/parser"
	"go/token"
	"go/types"
	"path/filepath"
	"strings"
	"testing"
)

const mayImport = " bytes cmp container/heap errors iter maps math math/bits slices sort strconv strings sync sync/atomic unicode unicode/utf8 "

func programFiles(t *testing.T) (*token.FileSet, map[string]*ast.File) {
	t.Helper()
	fset := token.NewFileSet()
	files := map[string]*ast.File{}
	paths, err := filepath.Glob("../impl/*")
	if err != nil || len(paths) == 0 {
		t.Fatal("no files", err)
	}
	for _, p := range paths {
		if !strings.HasSuffix(p, ".go") {
			t.Error("beside the Go files:", p)
			continue
		}
		f, err := parser.ParseFile(fset, p, nil, parser.ParseComments)
		if err != nil {
			t.Fatal(err)
		}
		files[filepath.Base(p)] = f
	}
	return fset, files
}

// typedFiles fills info with what the type checker finds in the program.
func typedFiles(t *testing.T, info *types.Info) map[string]*ast.File {
	t.Helper()
	fset, byName := programFiles(t)
	var files []*ast.File
	for _, f := range byName {
		files = append(files, f)
	}
	check := types.Config{Importer: importer.ForCompiler(fset, "source", nil)}
	if _, err := check.Check("loop.example/g00329/impl", fset, files, info); err != nil {
		t.Fatal(err)
	}
	return byName
}

func TestProgramKeepsToItsLanguage(t *testing.T) {
	fset, files := programFiles(t)
	for name, f := range files {
		for _, i := range f.Imports {
			if !strings.Contains(mayImport, " "+strings.Trim(i.Path.Value, "\"")+" ") {
				t.Error(name, "imports", i.Path.Value)
			}
		}
		for _, g := range f.Comments {
			for _, c := range g.List {
				if strings.HasPrefix(c.Text, "//go:") || strings.HasPrefix(c.Text, "// +build") {
					t.Error(name, "has the line", c.Text)
				}
			}
		}
		for _, d := range f.Decls {
			if x, ok := d.(*ast.FuncDecl); ok {
				if n := fset.Position(x.End()).Line - fset.Position(x.Pos()).Line + 1; n > 60 {
					t.Error(name, x.Name.Name, "has", n, "lines")
				}
			}
		}
	}
}

func TestWordsArePutByVariadicFunctions(t *testing.T) {
	_, files := programFiles(t)
	f := files["l01_word.go"]
	if f == nil {
		t.Fatal("no l01_word.go")
	}
	variadic := false
	ast.Inspect(f, func(n ast.Node) bool {
		e, ok := n.(*ast.Ellipsis)
		variadic = variadic || ok && e.Elt != nil
		return true
	})
	if !variadic {
		t.Error("no variadic function")
	}
}
