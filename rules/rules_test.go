// Package rules_test holds the layers' code against the rules of the language that the program keeps to.
package rules_test

import (
	"go/ast"
	"go/parser"
	"go/token"
	"os"
	"path/filepath"
	"slices"
	"strconv"
	"strings"
	"testing"
)

// layers: the packages of the map.
const layers = "aim api arrive axiom bars bench bits bound byfloor cal car chart clock cols csv cumul demand design diff digits dispatch draw energy engine eta " +
	"face figure frac gantt goal grid heap hist lcg lexer meet move near nums observe pack pareto park parse people pick place prob pulse queue quiet rank replay " +
	"report rota run sector serve sheet show shuffle span story tape tick track trip vet want when windows words zone"

// library: what may be imported of it.
const library = "bytes cmp container/heap errors iter maps math math/bits slices sort strconv strings sync sync/atomic unicode unicode/utf8"

// barred: what of these may not be used.
func barred(path, name string) bool {
	switch path {
	case "iter":
		return name == "Pull" || name == "Pull2"
	case "sync":
		return !slices.Contains([]string{"Mutex", "RWMutex", "WaitGroup", "Once"}, name)
	}
	return false
}

// source: the files of a layer but its tests, read.
func source(t *testing.T, fset *token.FileSet, layer string) []*ast.File {
	t.Helper()
	dir := filepath.Join("..", layer)
	l, err := os.ReadDir(dir)
	if err != nil {
		t.Fatal(err)
	}
	var files []*ast.File
	for _, d := range l {
		name := d.Name()
		if strings.HasSuffix(name, "_test.go") {
			continue
		}
		if !strings.HasSuffix(name, ".go") {
			t.Errorf("%s/%s: not a Go file", layer, name)
			continue
		}
		f, err := parser.ParseFile(fset, filepath.Join(dir, name), nil, parser.ParseComments)
		if err != nil {
			t.Fatal(err)
		}
		files = append(files, f)
	}
	if len(files) == 0 {
		t.Errorf("%s: no Go file", layer)
	}
	return files
}

func checkImports(t *testing.T, fset *token.FileSet, f *ast.File) {
	names := map[string]string{}
	for _, i := range f.Imports {
		path, err := strconv.Unquote(i.Path.Value)
		if err != nil {
			t.Fatal(err)
		}
		own, ok := strings.CutPrefix(path, "hoistway/")
		if !ok && !slices.Contains(strings.Fields(library), path) || ok && !slices.Contains(strings.Fields(layers), own) {
			t.Errorf("%s: imports %s", fset.Position(i.Pos()), path)
		}
		name := path[strings.LastIndex(path, "/")+1:]
		if i.Name != nil {
			name = i.Name.Name
		}
		names[name] = path
	}
	ast.Inspect(f, func(n ast.Node) bool {
		if s, ok := n.(*ast.SelectorExpr); ok {
			if x, ok := s.X.(*ast.Ident); ok && barred(names[x.Name], s.Sel.Name) {
				t.Errorf("%s: uses %s.%s", fset.Position(s.Pos()), x.Name, s.Sel.Name)
			}
		}
		return true
	})
}

func checkComments(t *testing.T, fset *token.FileSet, f *ast.File) {
	for _, g := range f.Comments {
		for _, c := range g.List {
			if strings.HasPrefix(c.Text, "//go:") || strings.HasPrefix(c.Text, "// +build") {
				t.Errorf("%s: %s", fset.Position(c.Pos()), c.Text)
			}
		}
	}
}

// TestLayers: each layer has its package, of Go files alone, with imports that may be and no line to the compiler.
func TestLayers(t *testing.T) {
	for _, layer := range strings.Fields(layers) {
		fset := token.NewFileSet()
		for _, f := range source(t, fset, layer) {
			if f.Name.Name != layer {
				t.Errorf("%s: package %s", layer, f.Name.Name)
			}
			checkImports(t, fset, f)
			checkComments(t, fset, f)
		}
	}
}
