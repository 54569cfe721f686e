// Package rules_test holds the layers' code against the rules of the language that the program keeps to.
package rules_test

import (
	"go/ast"
	"go/parser"
	"go/token"
	"os"
	"path/filepath"
	"slices"
	"strconv"
	"strings"
	"testing"
)

// calls: the packages of the map, each with those that it may lean on.
const calls = `
api:
nums: api
digits: api nums
bits: api
pack: api
words: api
heap: api
grid: api
frac: api digits nums
span: api
lcg:
cumul: api
draw: api cumul words
pick: api words
hist: api
rank: api
cols: digits
place: api
cal: api heap
lexer: api
vet: api
demand: api grid pick
when: api
bound: api place
trip: api
track: api
parse: api lexer vet
show: api digits vet
arrive: api cumul demand draw grid vet when words
queue: api bits place
want: api bits
face: api bits want
near: api place
sector:
eta: api bits bound near place want
figure: api frac track trip
chart: api digits place track
tape: api pack
diff: api track
serve: api face place queue want
move: api face place
aim: api bits bound eta near place want
report: api cols digits figure frac hist rank show trip
car: api move place queue sector serve
quiet: api face move place
dispatch: aim api bits car eta near place sector trip want
tick: api car dispatch track
engine: api cal car dispatch quiet track
axiom: api place sector track trip
run: api arrive engine parse report show tick
bench: api arrive cols digits engine frac rank report show trip
replay: api digits track trip
clock: api digits
csv: api
pareto:
bars: api digits nums
prob: api
sheet: api csv digits
observe: api grid
goal: api digits lexer rank trip
zone: api
park: api place
people: api
pulse: api
energy: api track trip
meet: api span track
story: api digits lexer track
design: api arrive cols digits engine goal pareto trip
rota: api span
shuffle: api words
byfloor: api cols digits place
gantt: api digits track
windows: api clock cols digits frac pulse
`

// layers: the packages of the map, and what each may lean on.
func layers() map[string][]string {
	l := map[string][]string{}
	for line := range strings.Lines(strings.TrimSpace(calls)) {
		name, leans, _ := strings.Cut(line, ":")
		l[name] = strings.Fields(leans)
	}
	return l
}

// library: what may be imported of it.
const library = "bytes cmp container/heap errors iter maps math math/bits slices sort strconv strings sync sync/atomic unicode unicode/utf8"

// barred: what of these may not be used.
func barred(path, name string) bool {
	switch path {
	case "iter":
		return name == "Pull" || name == "Pull2"
	case "sync":
		return !slices.Contains([]string{"Mutex", "RWMutex", "WaitGroup", "Once"}, name)
	}
	return false
}

// source: the files of a layer but its tests, read.
func source(t *testing.T, fset *token.FileSet, layer string) []*ast.File {
	t.Helper()
	dir := filepath.Join("..", layer)
	l, err := os.ReadDir(dir)
	if err != nil {
		t.Fatal(err)
	}
	var files []*ast.File
	for _, d := range l {
		name := d.Name()
		if strings.HasSuffix(name, "_test.go") {
			continue
		}
		if !strings.HasSuffix(name, ".go") {
			t.Errorf("%s/%s: not a Go file", layer, name)
			continue
		}
		f, err := parser.ParseFile(fset, filepath.Join(dir, name), nil, parser.ParseComments)
		if err != nil {
			t.Fatal(err)
		}
		files = append(files, f)
	}
	if len(files) == 0 {
		t.Errorf("%s: no Go file", layer)
	}
	return files
}

func checkImports(t *testing.T, fset *token.FileSet, f *ast.File, leans []string) {
	names := map[string]string{}
	for _, i := range f.Imports {
		path, err := strconv.Unquote(i.Path.Value)
		if err != nil {
			t.Fatal(err)
		}
		own, ok := strings.CutPrefix(path, "hoistway/")
		if !ok && !slices.Contains(strings.Fields(library), path) || ok && !slices.Contains(leans, own) {
			t.Errorf("%s: imports %s", fset.Position(i.Pos()), path)
		}
		name := path[strings.LastIndex(path, "/")+1:]
		if i.Name != nil {
			name = i.Name.Name
		}
		names[name] = path
	}
	ast.Inspect(f, func(n ast.Node) bool {
		if s, ok := n.(*ast.SelectorExpr); ok {
			if x, ok := s.X.(*ast.Ident); ok && barred(names[x.Name], s.Sel.Name) {
				t.Errorf("%s: uses %s.%s", fset.Position(s.Pos()), x.Name, s.Sel.Name)
			}
		}
		return true
	})
}

func checkComments(t *testing.T, fset *token.FileSet, f *ast.File) {
	for _, g := range f.Comments {
		for _, c := range g.List {
			if strings.HasPrefix(c.Text, "//go:") || strings.HasPrefix(c.Text, "// +build") {
				t.Errorf("%s: %s", fset.Position(c.Pos()), c.Text)
			}
		}
	}
}

// TestLayers: each layer has its package, of Go files alone, with imports that may be (of the project those that the map names) and no line to the compiler.
func TestLayers(t *testing.T) {
	for layer, leans := range layers() {
		fset := token.NewFileSet()
		for _, f := range source(t, fset, layer) {
			if f.Name.Name != layer {
				t.Errorf("%s: package %s", layer, f.Name.Name)
			}
			checkImports(t, fset, f, leans)
			checkComments(t, fset, f)
		}
	}
}
