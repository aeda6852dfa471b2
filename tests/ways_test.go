package tests

import (
	"go/ast"
	"go/parser"
	"go/token"
	"testing"
)

// variadicsOf: the functions of a file that take any number of a last argument, each with that argument's type.
func variadicsOf(f *ast.File) map[string]string {
	out := map[string]string{}
	for _, d := range f.Decls {
		fn, ok := d.(*ast.FuncDecl)
		if !ok || len(fn.Type.Params.List) == 0 {
			continue
		}
		last := fn.Type.Params.List[len(fn.Type.Params.List)-1]
		if e, ok := last.Type.(*ast.Ellipsis); ok {
			if id, ok := e.Elt.(*ast.Ident); ok {
				out[fn.Name.Name] = id.Name
			}
		}
	}
	return out
}

// callsVariadicOf: whether the function of this name calls one of these with that type.
func callsVariadicOf(f *ast.File, name, kind string) bool {
	variadics, found := variadicsOf(f), false
	for _, d := range f.Decls {
		if fn, ok := d.(*ast.FuncDecl); ok && fn.Name.Name == name {
			ast.Inspect(fn, func(n ast.Node) bool {
				if c, ok := n.(*ast.CallExpr); ok {
					id, ok := c.Fun.(*ast.Ident)
					found = found || ok && variadics[id.Name] == kind
				}
				return true
			})
		}
	}
	return found
}

func TestNumbersAndNamesArePutByVariadics(t *testing.T) {
	f, err := parser.ParseFile(token.NewFileSet(), "../impl/l01_bytes.go", nil, 0)
	if err != nil {
		t.Fatal(err)
	}
	if !callsVariadicOf(f, "PutNum", "int") || !callsVariadicOf(f, "PutNames", "string") {
		t.Error("numbers and names are not put by variadic functions:", variadicsOf(f))
	}
}
