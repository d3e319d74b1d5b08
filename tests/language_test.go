package tests

import (
	"bytes"
	"go/ast"
	"go/format"
	"go/parser"
	"go/token"
	"os"
	"path/filepath"
	"strings"
	"testing"
)

const allowedImports = " bytes cmp container/heap errors iter maps math math/bits slices sort strconv strings sync sync/atomic unicode unicode/utf8 "

const longestFunction = 60

// programFiles returns the program's Go files.
func programFiles(t *testing.T) []string {
	t.Helper()
	files, err := filepath.Glob(filepath.Join("..", "impl", "*"))
	if err != nil || len(files) == 0 {
		t.Fatal("no files of the program", err)
	}
	return files
}

func TestLanguageOfTheProgram(t *testing.T) {
	for _, path := range programFiles(t) {
		source, err := os.ReadFile(path)
		if err != nil {
			t.Fatal(err)
		}
		set := token.NewFileSet()
		file, err := parser.ParseFile(set, path, source, parser.ParseComments)
		if err != nil {
			t.Fatal(err)
		}
		if neat, err := format.Source(source); err != nil || !bytes.Equal(neat, source) {
			t.Errorf("%s is not laid out by gofmt", path)
		}
		checkImports(t, path, file)
		checkComments(t, path, file)
		checkLengths(t, path, set, file)
	}
}

func checkImports(t *testing.T, path string, file *ast.File) {
	for _, x := range file.Imports {
		if name := strings.Trim(x.Path.Value, `"`); !strings.Contains(allowedImports, " "+name+" ") {
			t.Errorf("%s imports %s", path, name)
		}
	}
}

func checkComments(t *testing.T, path string, file *ast.File) {
	for _, group := range file.Comments {
		for _, c := range group.List {
			if strings.HasPrefix(c.Text, "//go:") || strings.HasPrefix(c.Text, "// +build") {
				t.Errorf("%s has the directive %s", path, c.Text)
			}
		}
	}
}

func checkLengths(t *testing.T, path string, set *token.FileSet, file *ast.File) {
	for _, d := range file.Decls {
		f, ok := d.(*ast.FuncDecl)
		if !ok {
			continue
		}
		if lines := set.Position(f.End()).Line - set.Position(f.Pos()).Line + 1; lines > longestFunction {
			t.Errorf("%s: %s has %d lines", path, f.Name.Name, lines)
		}
	}
}
