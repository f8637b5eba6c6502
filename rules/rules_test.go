// Package rules holds the program's text to shared/LANGUAGE.md and to the map of shared/DOC.md.
package rules

import (
	"bytes"
	"go/ast"
	"go/format"
	"go/parser"
	"go/token"
	"io/fs"
	"os"
	"path/filepath"
	"slices"
	"strconv"
	"strings"
	"testing"
)

// library is what the program may import beside its own packages.
const library = "bytes cmp container/heap errors iter maps math math/bits slices sort strconv strings sync sync/atomic unicode unicode/utf8"

// mostLines is how long a function may be.
const mostLines = 60

// calls is the map of the document: which packages each layer may call.
func calls() map[string]string {
	return map[string]string{
		"api":       "",
		"wide":      "api",
		"octet":     "api",
		"sum":       "api",
		"disk":      "api",
		"cache":     "api",
		"journal":   "api octet sum",
		"pager":     "api disk cache journal",
		"free":      "api octet pager",
		"cell":      "api octet",
		"spill":     "api octet free",
		"tree":      "api free cell spill",
		"walk":      "api tree",
		"shape":     "api",
		"wkb":       "api octet shape",
		"box":       "api wide octet shape",
		"blob":      "api octet shape wkb box",
		"wkt":       "api shape",
		"node":      "api octet box",
		"choose":    "api wide box node",
		"rtree":     "api octet free tree walk box node choose",
		"value":     "api octet",
		"schema":    "api octet shape box blob rtree value",
		"catalog":   "api free tree walk rtree schema",
		"layer":     "api tree walk box blob rtree value schema catalog",
		"command":   "api octet box value schema",
		"reply":     "api octet box blob wkt value command",
		"integrity": "api free catalog layer",
		"vacuum":    "api pager free tree walk rtree schema catalog",
		"engine":    "api disk pager free schema catalog layer command reply integrity vacuum",
		"model":     "api box blob value schema catalog layer command reply",
		"crash":     "api disk command reply integrity engine model",
		"script":    "api octet disk command model crash",
		"console":   "api shape blob wkt value schema command reply integrity model crash",
	}
}

// file is one of the program's Go files.
type file struct {
	path string // from the project's root
	text []byte
	set  *token.FileSet
	tree *ast.File
}

// program reads the Go files of the program: not the tests, nor what .ci/run lays beside them.
func program(t *testing.T) []file {
	t.Helper()
	var out []file
	root := os.DirFS("..")
	err := fs.WalkDir(root, ".", func(path string, d fs.DirEntry, err error) error {
		if err != nil {
			return err
		}
		if d.IsDir() {
			if path == "sharedtests" || path != "." && strings.HasPrefix(d.Name(), ".") {
				return fs.SkipDir
			}
			return nil
		}
		if !strings.HasSuffix(path, ".go") || strings.HasSuffix(path, "_test.go") {
			return nil
		}
		f := file{path: path, set: token.NewFileSet()}
		if f.text, err = fs.ReadFile(root, path); err != nil {
			return err
		}
		f.tree, err = parser.ParseFile(f.set, path, f.text, parser.ParseComments)
		out = append(out, f)
		return err
	})
	if err != nil {
		t.Fatal(err)
	}
	if len(out) < len(calls()) {
		t.Fatalf("%d files: some of the packages are not there", len(out))
	}
	return out
}

func TestImports(t *testing.T) {
	for _, f := range program(t) {
		own := filepath.Dir(f.path)
		for _, i := range f.tree.Imports {
			path, err := strconv.Unquote(i.Path.Value)
			if err != nil {
				t.Fatal(err)
			}
			below, ours := strings.CutPrefix(path, "hachure/")
			if !ours && !slices.Contains(strings.Fields(library), path) {
				t.Errorf("%s imports %s, which the language does not have", f.path, path)
			}
			may, known := calls()[own]
			if _, layer := calls()[below]; known && layer && !slices.Contains(strings.Fields(may), below) {
				t.Errorf("%s imports %s, which the map does not say", f.path, path)
			}
		}
	}
}

func TestLayout(t *testing.T) {
	for _, f := range program(t) {
		want, err := format.Source(f.text)
		if err != nil {
			t.Fatal(err)
		}
		if !bytes.Equal(f.text, want) {
			t.Errorf("%s is not in gofmt's layout", f.path)
		}
	}
}

func TestFunctionsAreShort(t *testing.T) {
	for _, f := range program(t) {
		for _, d := range f.tree.Decls {
			if fn, ok := d.(*ast.FuncDecl); ok {
				if n := f.set.Position(fn.End()).Line - f.set.Position(fn.Pos()).Line + 1; n > mostLines {
					t.Errorf("%s: %s has %d lines", f.path, fn.Name.Name, n)
				}
			}
		}
	}
}

func TestNoDirectives(t *testing.T) {
	for _, f := range program(t) {
		for _, group := range f.tree.Comments {
			for _, c := range group.List {
				if strings.HasPrefix(c.Text, "//go:") || strings.HasPrefix(c.Text, "// +build") {
					t.Errorf("%s: %s", f.path, c.Text)
				}
			}
		}
	}
}

// TestPackageFolders: a package's folder has Go files alone.
func TestPackageFolders(t *testing.T) {
	for name := range calls() {
		list, err := os.ReadDir(filepath.Join("..", name))
		if err != nil {
			t.Fatal(err)
		}
		for _, e := range list {
			if !strings.HasSuffix(e.Name(), ".go") && e.Name() != "testdata" {
				t.Errorf("%s/%s is no Go file", name, e.Name())
			}
		}
	}
}
