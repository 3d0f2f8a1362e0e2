// Package rules holds the program's text against the rules of its language, as far as a text shows them.
package rules

import (
	"bytes"
	"go/ast"
	"go/format"
	"go/parser"
	"go/token"
	"os"
	"path/filepath"
	"strconv"
	"strings"
	"testing"
)

const (
	root      = ".."
	module    = "relay/"
	mostLines = 60
	// By their names: other folders may be laid beside them.
	packages  = "api value times lex words trees shown samples listing decl st il graph sfc stdlib blocks graphcore ilcore sfccore layout core meaning ir opt alloc image vm bound tasks sched plc desk watch"
	mayImport = " bytes cmp container/heap errors iter maps math math/bits slices sort strconv strings sync sync/atomic unicode unicode/utf8 "
)

// programFiles is the paths of all Go files of the program, tests aside.
func programFiles(t *testing.T) []string {
	var l []string
	for _, name := range strings.Fields(packages) {
		files, err := filepath.Glob(filepath.Join(root, name, "*.go"))
		if err != nil || len(files) == 0 {
			t.Fatal(name, err)
		}
		for _, path := range files {
			if !strings.HasSuffix(path, "_test.go") {
				l = append(l, path)
			}
		}
	}
	return l
}

func TestRules(t *testing.T) {
	for _, path := range programFiles(t) {
		text, err := os.ReadFile(path)
		if err != nil {
			t.Fatal(err)
		}
		if laid, err := format.Source(text); err != nil || !bytes.Equal(laid, text) {
			t.Errorf("%s: not in gofmt's layout (%v)", path, err)
		}
		set := token.NewFileSet()
		file, err := parser.ParseFile(set, path, text, parser.ParseComments)
		if err != nil {
			t.Fatal(err)
		}
		checkImports(t, path, file)
		checkRemarks(t, path, file)
		checkLengths(t, set, file)
	}
}

func checkImports(t *testing.T, path string, file *ast.File) {
	for _, i := range file.Imports {
		name, _ := strconv.Unquote(i.Path.Value)
		if !strings.HasPrefix(name, module) && !strings.Contains(mayImport, " "+name+" ") {
			t.Errorf("%s: imports %s", path, name)
		}
	}
}

func checkRemarks(t *testing.T, path string, file *ast.File) {
	for _, group := range file.Comments {
		for _, c := range group.List {
			if strings.HasPrefix(c.Text, "//go:") || strings.HasPrefix(c.Text, "// +build") {
				t.Errorf("%s: %s", path, c.Text)
			}
		}
	}
}

func checkLengths(t *testing.T, set *token.FileSet, file *ast.File) {
	for _, d := range file.Decls {
		f, ok := d.(*ast.FuncDecl)
		if !ok {
			continue
		}
		if n := set.Position(f.End()).Line - set.Position(f.Pos()).Line + 1; n > mostLines {
			t.Errorf("%s: %s has %d lines", set.Position(f.Pos()), f.Name.Name, n)
		}
	}
}
