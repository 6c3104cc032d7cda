package house

import (
	"bytes"
	"go/ast"
	"go/format"
	"go/parser"
	"go/token"
	"os"
	"path/filepath"
	"slices"
	"strconv"
	"strings"
	"testing"
)

const library = " bytes cmp container/heap errors iter maps math math/bits slices sort strconv strings sync sync/atomic unicode unicode/utf8 "

const longest = 60

const layers = "sha1 hmac aes cmac mac kdf sum tcp seg keys sne ao window rto reasm stream frame open attrs update msg fsm policy ribin decide ribout rib line speaker world script console"

// sources is all files of the layers but their tests.
func sources(t *testing.T) []string {
	var l []string
	for _, layer := range strings.Fields(layers) {
		all, err := filepath.Glob("../" + layer + "/*.go")
		if err != nil || len(all) == 0 {
			t.Fatal("no sources of ", layer, err)
		}
		for _, f := range all {
			if !strings.HasSuffix(f, "_test.go") {
				l = append(l, f)
			}
		}
	}
	return l
}

// TestLanguage asks what of the language's rules a text shows: imports, remarks that command, layout, long functions, variables without a value.
func TestLanguage(t *testing.T) {
	for _, f := range sources(t) {
		text, err := os.ReadFile(f)
		if err != nil {
			t.Fatal(err)
		}
		if laid, err := format.Source(text); err != nil || !bytes.Equal(laid, text) {
			t.Errorf("%s: not in gofmt's layout (%v)", f, err)
		}
		if bytes.Contains(text, []byte("//go:")) || bytes.Contains(text, []byte("// +build")) {
			t.Errorf("%s: a remark that commands", f)
		}
		set := token.NewFileSet()
		a, err := parser.ParseFile(set, f, text, parser.ParseComments)
		if err != nil {
			t.Fatal(err)
		}
		for _, i := range a.Imports {
			path, _ := strconv.Unquote(i.Path.Value)
			if !strings.HasPrefix(path, "pursuivant/") && !strings.Contains(library, " "+path+" ") {
				t.Errorf("%s imports %s", f, path)
			}
		}
		for _, d := range a.Decls {
			askDecl(t, f, set, d)
		}
	}
}

func askDecl(t *testing.T, file string, set *token.FileSet, d ast.Decl) {
	switch x := d.(type) {
	case *ast.FuncDecl:
		if n := set.Position(x.End()).Line - set.Position(x.Pos()).Line + 1; n > longest {
			t.Errorf("%s: %s has %d lines", file, x.Name.Name, n)
		}
		if x.Recv == nil && x.Name.Name == "init" {
			t.Errorf("%s: init", file)
		}
	case *ast.GenDecl:
		if x.Tok != token.VAR {
			return
		}
		for _, s := range x.Specs {
			v, ok := s.(*ast.ValueSpec)
			if !ok || len(v.Values) > 0 || file == "../aes/box.go" && slices.Contains(kept, v.Names[0].Name) {
				continue
			}
			t.Errorf("%s: %s has no value of its own", file, v.Names[0].Name)
		}
	}
}
