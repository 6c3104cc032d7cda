package house

import (
	"go/ast"
	"go/types"
	"slices"
	"testing"
)

// kept is the variables of package aes that are worked out once: the only ones of the program that have no value of their own.
var kept = []string{"boxOnce", "boxes"}

// usesOf is, by function, what of its package each one names.
func usesOf(w *waysLook, p *waysPack) map[types.Object][]types.Object {
	uses := map[types.Object][]types.Object{}
	for _, f := range p.files {
		for _, d := range f.Decls {
			x, ok := d.(*ast.FuncDecl)
			if !ok {
				continue
			}
			from := w.info.Defs[x.Name]
			ast.Inspect(x, func(n ast.Node) bool {
				if id, ok := n.(*ast.Ident); ok && w.info.Uses[id] != nil {
					uses[from] = append(uses[from], w.info.Uses[id])
				}
				return true
			})
		}
	}
	return uses
}

// readersOf is the names of the exported functions that reach it, sorted.
func readersOf(uses map[types.Object][]types.Object, it types.Object) []string {
	var readers []string
	for from := range uses {
		seen := map[types.Object]struct{}{from: {}}
		work := []types.Object{from}
		for len(work) > 0 && from.Exported() {
			o := work[0]
			work = work[1:]
			if o == it {
				readers = append(readers, from.Name())
				break
			}
			for _, next := range uses[o] {
				if _, ok := seen[next]; !ok {
					seen[next] = struct{}{}
					work = append(work, next)
				}
			}
		}
	}
	slices.Sort(readers)
	return readers
}

// TestKept asks that Box alone reads what is kept, so that what ciphers make hangs on keys and blocks alone.
func TestKept(t *testing.T) {
	w := lookAt("..", "pursuivant")
	p, err := w.load("pursuivant/aes")
	if err != nil {
		t.Fatal(err)
	}
	uses := usesOf(w, p)
	for _, name := range kept {
		o := p.tp.Scope().Lookup(name)
		if o == nil {
			t.Fatal("no variable ", name)
		}
		if readers := readersOf(uses, o); !slices.Equal(readers, []string{"Box"}) {
			t.Errorf("%s is read by %v, not by Box alone", name, readers)
		}
	}
}
