package tests

import (
	"go/ast"
	"go/parser"
	"go/token"
	"path/filepath"
	"slices"
	"testing"
)

// variadicsOf: the functions of a file that take any number of a last argument, each with that argument's type.
func variadicsOf(f *ast.File) map[string]string {
	out := map[string]string{}
	for _, d := range f.Decls {
		fn, ok := d.(*ast.FuncDecl)
		if !ok || len(fn.Type.Params.List) == 0 {
			continue
		}
		last := fn.Type.Params.List[len(fn.Type.Params.List)-1]
		if e, ok := last.Type.(*ast.Ellipsis); ok {
			if id, ok := e.Elt.(*ast.Ident); ok {
				out[fn.Name.Name] = id.Name
			}
		}
	}
	return out
}

// callsVariadicOf: whether the function of this name calls one of these with that type.
func callsVariadicOf(f *ast.File, name, kind string) bool {
	variadics, found := variadicsOf(f), false
	for _, d := range f.Decls {
		if fn, ok := d.(*ast.FuncDecl); ok && fn.Name.Name == name {
			ast.Inspect(fn, func(n ast.Node) bool {
				if c, ok := n.(*ast.CallExpr); ok {
					id, ok := c.Fun.(*ast.Ident)
					found = found || ok && variadics[id.Name] == kind
				}
				return true
			})
		}
	}
	return found
}

func TestNumbersAndNamesArePutByVariadics(t *testing.T) {
	f, err := parser.ParseFile(token.NewFileSet(), "../impl/l01_bytes.go", nil, 0)
	if err != nil {
		t.Fatal(err)
	}
	if !callsVariadicOf(f, "PutNum", "int") || !callsVariadicOf(f, "PutNames", "string") {
		t.Error("numbers and names are not put by variadic functions:", variadicsOf(f))
	}
}

// arraysOfWords: the package-level arrays of 32-bit words in a file, each with how many it has.
func arraysOfWords(f *ast.File) map[string]int {
	out := map[string]int{}
	for _, d := range f.Decls {
		g, ok := d.(*ast.GenDecl)
		if !ok || g.Tok != token.VAR {
			continue
		}
		for _, s := range g.Specs {
			v := s.(*ast.ValueSpec)
			for i, name := range v.Names {
				if i < len(v.Values) && isArrayOfWords(v.Values[i]) {
					out[name.Name] = len(v.Values[i].(*ast.CompositeLit).Elts)
				}
			}
		}
	}
	return out
}

func isArrayOfWords(e ast.Expr) bool {
	c, ok := e.(*ast.CompositeLit)
	if !ok {
		return false
	}
	a, ok := c.Type.(*ast.ArrayType)
	if !ok || a.Len == nil {
		return false
	}
	id, ok := a.Elt.(*ast.Ident)
	return ok && id.Name == "uint32"
}

// writesInPlaceOf: whether a function of the file writes an element of an array that its argument points to.
func writesInPlaceOf(f *ast.File) bool {
	found := false
	for _, d := range f.Decls {
		fn, ok := d.(*ast.FuncDecl)
		if !ok {
			continue
		}
		pointed := pointedArrays(fn)
		ast.Inspect(fn, func(n ast.Node) bool {
			if a, ok := n.(*ast.AssignStmt); ok {
				if x, ok := a.Lhs[0].(*ast.IndexExpr); ok {
					id, ok := x.X.(*ast.Ident)
					found = found || ok && pointed[id.Name]
				}
			}
			return true
		})
	}
	return found
}

func pointedArrays(fn *ast.FuncDecl) map[string]bool {
	out := map[string]bool{}
	for _, p := range fn.Type.Params.List {
		star, ok := p.Type.(*ast.StarExpr)
		if !ok {
			continue
		}
		if a, ok := star.X.(*ast.ArrayType); ok && a.Len != nil {
			for _, name := range p.Names {
				out[name.Name] = true
			}
		}
	}
	return out
}

func TestWordsOfABlockAreAnArrayTurnedInPlace(t *testing.T) {
	f, err := parser.ParseFile(token.NewFileSet(), "../impl/l02_sha.go", nil, 0)
	if err != nil {
		t.Fatal(err)
	}
	if !writesInPlaceOf(f) {
		t.Error("no array is turned in place")
	}
	for _, n := range arraysOfWords(f) {
		if n == 64 {
			return
		}
	}
	t.Error("the constants don't stand in an array:", arraysOfWords(f))
}

// iteratorsOf: the functions of a file that answer an iter.Seq.
func iteratorsOf(f *ast.File) map[string]bool {
	out := map[string]bool{}
	for _, d := range f.Decls {
		fn, ok := d.(*ast.FuncDecl)
		if !ok || fn.Type.Results == nil || len(fn.Type.Results.List) != 1 {
			continue
		}
		if x, ok := fn.Type.Results.List[0].Type.(*ast.IndexExpr); ok {
			s, ok := x.X.(*ast.SelectorExpr)
			out[fn.Name.Name] = ok && s.Sel.Name == "Seq"
		}
	}
	return out
}

// rangesOverIterator: whether the function of this name ranges over what one of these answers.
func rangesOverIterator(f *ast.File, name string) bool {
	iterators, found := iteratorsOf(f), false
	for _, d := range f.Decls {
		if fn, ok := d.(*ast.FuncDecl); ok && fn.Name.Name == name {
			ast.Inspect(fn, func(n ast.Node) bool {
				if r, ok := n.(*ast.RangeStmt); ok {
					if c, ok := r.X.(*ast.CallExpr); ok {
						id, ok := c.Fun.(*ast.Ident)
						found = found || ok && iterators[id.Name]
					}
				}
				return true
			})
		}
	}
	return found
}

func TestAPathComesOutOfAnIterator(t *testing.T) {
	f, err := parser.ParseFile(token.NewFileSet(), "../impl/l03_merkle.go", nil, 0)
	if err != nil {
		t.Fatal(err)
	}
	if !rangesOverIterator(f, "PathOf") {
		t.Error("a path does not come out of an iterator:", iteratorsOf(f))
	}
}

// mapTypesOf: the types of a file that are maps from texts to this type.
func mapTypesOf(f *ast.File, kind string) map[string]bool {
	out := map[string]bool{}
	ast.Inspect(f, func(n ast.Node) bool {
		if s, ok := n.(*ast.TypeSpec); ok {
			if m, ok := s.Type.(*ast.MapType); ok {
				key, isKey := m.Key.(*ast.Ident)
				value, isValue := m.Value.(*ast.Ident)
				out[s.Name.Name] = isKey && isValue && key.Name == "string" && value.Name == kind
			}
		}
		return true
	})
	return out
}

// deletesFrom: whether a method of a type that is among these deletes from what it is a method of.
func deletesFrom(f *ast.File, types map[string]bool) bool {
	found := false
	for _, d := range f.Decls {
		fn, ok := d.(*ast.FuncDecl)
		if !ok || fn.Recv == nil || len(fn.Recv.List[0].Names) == 0 {
			continue
		}
		of, ok := fn.Recv.List[0].Type.(*ast.Ident)
		if !ok || !types[of.Name] {
			continue
		}
		ast.Inspect(fn, func(n ast.Node) bool {
			if c, ok := n.(*ast.CallExpr); ok && len(c.Args) == 2 {
				called, isCalled := c.Fun.(*ast.Ident)
				from, isFrom := c.Args[0].(*ast.Ident)
				found = found || isCalled && isFrom && called.Name == "delete" && from.Name == fn.Recv.List[0].Names[0].Name
			}
			return true
		})
	}
	return found
}

func TestEmptyAccountsAreDeletedFromTheirMap(t *testing.T) {
	f, err := parser.ParseFile(token.NewFileSet(), "../impl/l04_acct.go", nil, 0)
	if err != nil {
		t.Fatal(err)
	}
	if books := mapTypesOf(f, "Acct"); !deletesFrom(f, books) {
		t.Error("no account is deleted from a map of them:", books)
	}
}

// countedConsts: the constants of a file whose value is counted by iota, whether written there or taken over from the line above.
func countedConsts(f *ast.File) map[string]bool {
	out := map[string]bool{}
	for _, d := range f.Decls {
		g, ok := d.(*ast.GenDecl)
		if !ok || g.Tok != token.CONST {
			continue
		}
		counted := false
		for _, s := range g.Specs {
			v := s.(*ast.ValueSpec)
			if len(v.Values) > 0 {
				counted = namesIota(v)
			}
			for _, name := range v.Names {
				out[name.Name] = counted
			}
		}
	}
	return out
}

func namesIota(v *ast.ValueSpec) bool {
	found := false
	ast.Inspect(v, func(n ast.Node) bool {
		id, ok := n.(*ast.Ident)
		found = found || ok && id.Name == "iota"
		return true
	})
	return found
}

// takenAs: the names by which a function takes arguments of this type.
func takenAs(fn *ast.FuncDecl, kind string) map[string]bool {
	out := map[string]bool{}
	for _, p := range fn.Type.Params.List {
		if id, ok := p.Type.(*ast.Ident); ok && id.Name == kind {
			for _, name := range p.Names {
				out[name.Name] = true
			}
		}
	}
	return out
}

// comparesWhole: whether a function of the file holds an argument of this type, as a whole, against something.
func comparesWhole(f *ast.File, kind string) bool {
	found := false
	for _, d := range f.Decls {
		fn, ok := d.(*ast.FuncDecl)
		if !ok {
			continue
		}
		taken := takenAs(fn, kind)
		ast.Inspect(fn, func(n ast.Node) bool {
			if b, ok := n.(*ast.BinaryExpr); ok && (b.Op == token.EQL || b.Op == token.NEQ) {
				id, ok := b.X.(*ast.Ident)
				found = found || ok && taken[id.Name]
			}
			return true
		})
	}
	return found
}

func TestKindsAreCountedAndOrdersComparedAsStructs(t *testing.T) {
	f, err := parser.ParseFile(token.NewFileSet(), "../impl/l05_tx.go", nil, 0)
	if err != nil {
		t.Fatal(err)
	}
	if c := countedConsts(f); !c["TxPay"] || !c["TxBond"] || !c["TxUnbond"] {
		t.Error("the kinds are not constants with iota:", c)
	}
	if !comparesWhole(f, "Tx") {
		t.Error("no order is compared as a struct")
	}
}

// errorTypesOf: the types of a file that are errors by a method of their own.
func errorTypesOf(f *ast.File) map[string]bool {
	out := map[string]bool{}
	for _, d := range f.Decls {
		fn, ok := d.(*ast.FuncDecl)
		if !ok || fn.Recv == nil || fn.Name.Name != "Error" {
			continue
		}
		if id, ok := fn.Recv.List[0].Type.(*ast.Ident); ok {
			out[id.Name] = true
		}
	}
	return out
}

// asksForAs: whether the function of this name asks by errors.As for a variable of one of these types.
func asksForAs(f *ast.File, name string, kinds map[string]bool) bool {
	asked, found := map[string]bool{}, false
	for _, d := range f.Decls {
		if fn, ok := d.(*ast.FuncDecl); ok && fn.Name.Name == name {
			ast.Inspect(fn, func(n ast.Node) bool {
				switch x := n.(type) {
				case *ast.ValueSpec:
					if id, ok := x.Type.(*ast.Ident); ok && kinds[id.Name] {
						asked[x.Names[0].Name] = true
					}
				case *ast.CallExpr:
					found = found || isErrorsAs(x.Fun) && len(x.Args) == 2 && pointsTo(x.Args[1], asked)
				}
				return true
			})
		}
	}
	return found
}

func isErrorsAs(e ast.Expr) bool {
	s, ok := e.(*ast.SelectorExpr)
	if !ok {
		return false
	}
	from, ok := s.X.(*ast.Ident)
	return ok && from.Name == "errors" && s.Sel.Name == "As"
}

func pointsTo(e ast.Expr, names map[string]bool) bool {
	u, ok := e.(*ast.UnaryExpr)
	if !ok || u.Op != token.AND {
		return false
	}
	id, ok := u.X.(*ast.Ident)
	return ok && names[id.Name]
}

func TestWhatAnOrderLacksIsAnErrorOfItsOwnType(t *testing.T) {
	f, err := parser.ParseFile(token.NewFileSet(), "../impl/l06_ledger.go", nil, 0)
	if err != nil {
		t.Fatal(err)
	}
	if kinds := errorTypesOf(f); !asksForAs(f, "Apply", kinds) {
		t.Error("what an order lacks is not asked for by errors.As:", kinds)
	}
}

// genericsHandedFunctions: the generic functions of a file, each with the place at which it is handed a function (-1: at none).
func genericsHandedFunctions(f *ast.File) map[string]int {
	out := map[string]int{}
	for _, d := range f.Decls {
		fn, ok := d.(*ast.FuncDecl)
		if !ok || fn.Type.TypeParams == nil {
			continue
		}
		place := 0
		out[fn.Name.Name] = -1
		for _, p := range fn.Type.Params.List {
			if _, ok := p.Type.(*ast.FuncType); ok {
				out[fn.Name.Name] = place
			}
			place += max(len(p.Names), 1)
		}
	}
	return out
}

// handsFunctionTo: whether the function of this name calls one of these, and hands it a function there.
func handsFunctionTo(f *ast.File, name string, generics map[string]int) bool {
	found := false
	for _, d := range f.Decls {
		if fn, ok := d.(*ast.FuncDecl); ok && fn.Name.Name == name {
			ast.Inspect(fn, func(n ast.Node) bool {
				if c, ok := n.(*ast.CallExpr); ok {
					if id, ok := c.Fun.(*ast.Ident); ok {
						place, there := generics[id.Name]
						found = found || there && place >= 0 && len(c.Args) > place
					}
				}
				return true
			})
		}
	}
	return found
}

func TestWeightsAreSummedByAGenericFunction(t *testing.T) {
	f, err := parser.ParseFile(token.NewFileSet(), "../impl/l07_set.go", nil, 0)
	if err != nil {
		t.Fatal(err)
	}
	generics := genericsHandedFunctions(f)
	if !handsFunctionTo(f, "WeightOf", generics) || !handsFunctionTo(f, "TotalOf", generics) {
		t.Error("weights are not summed by a generic function that is handed a function:", generics)
	}
}

// gathersByClosure: whether the function of this name has a function within it that writes into a variable that is declared outside of that one.
func gathersByClosure(f *ast.File, name string) bool {
	found := false
	for _, d := range f.Decls {
		if fn, ok := d.(*ast.FuncDecl); ok && fn.Name.Name == name {
			ast.Inspect(fn, func(n ast.Node) bool {
				if lit, ok := n.(*ast.FuncLit); ok {
					found = found || writesOutside(lit)
				}
				return true
			})
		}
	}
	return found
}

func writesOutside(lit *ast.FuncLit) bool {
	inside, found := map[string]bool{}, false
	ast.Inspect(lit, func(n ast.Node) bool {
		a, ok := n.(*ast.AssignStmt)
		if !ok {
			return true
		}
		for _, to := range a.Lhs {
			of := writtenName(to)
			if a.Tok == token.DEFINE {
				inside[of] = true
			} else {
				found = found || of != "" && !inside[of]
			}
		}
		return true
	})
	return found
}

// writtenName: of x, and of a field of x, the name x.
func writtenName(e ast.Expr) string {
	if s, ok := e.(*ast.SelectorExpr); ok {
		e = s.X
	}
	if id, ok := e.(*ast.Ident); ok {
		return id.Name
	}
	return ""
}

func TestVotesAreGatheredByAClosure(t *testing.T) {
	f, err := parser.ParseFile(token.NewFileSet(), "../impl/l08_cert.go", nil, 0)
	if err != nil {
		t.Fatal(err)
	}
	for _, name := range []string{"GatherQc", "GatherTc"} {
		if !gathersByClosure(f, name) {
			t.Errorf("%s does not gather by a closure", name)
		}
	}
}

// bodyOf: the function of this name in a file, without a receiver.
func bodyOf(f *ast.File, name string) *ast.FuncDecl {
	for _, d := range f.Decls {
		if fn, ok := d.(*ast.FuncDecl); ok && fn.Recv == nil && fn.Name.Name == name {
			return fn
		}
	}
	return nil
}

// reachedIn: the functions of a file that this one calls, directly or by others there, itself among them.
func reachedIn(f *ast.File, name string) []*ast.FuncDecl {
	seen := map[string]bool{name: true}
	var out []*ast.FuncDecl
	for work := []string{name}; len(work) > 0; work = work[1:] {
		fn := bodyOf(f, work[0])
		if fn == nil {
			continue
		}
		out = append(out, fn)
		ast.Inspect(fn, func(n ast.Node) bool {
			if c, ok := n.(*ast.CallExpr); ok {
				if id, ok := c.Fun.(*ast.Ident); ok && !seen[id.Name] {
					seen[id.Name] = true
					work = append(work, id.Name)
				}
			}
			return true
		})
	}
	return out
}

// anyNode: whether one of these functions has a node of which this holds.
func anyNode(fns []*ast.FuncDecl, holds func(n ast.Node) bool) bool {
	found := false
	for _, fn := range fns {
		ast.Inspect(fn, func(n ast.Node) bool {
			found = found || n != nil && holds(n)
			return true
		})
	}
	return found
}

func isCutByThree(n ast.Node) bool {
	s, ok := n.(*ast.SliceExpr)
	return ok && s.Slice3
}

func isCopy(n ast.Node) bool { return isCallOf(n, "copy") }

// namedErrors: the package-level variables of a file that errors.New makes.
func namedErrors(f *ast.File) map[string]bool {
	out := map[string]bool{}
	for _, d := range f.Decls {
		g, ok := d.(*ast.GenDecl)
		if !ok || g.Tok != token.VAR {
			continue
		}
		for _, s := range g.Specs {
			v := s.(*ast.ValueSpec)
			for i, name := range v.Names {
				if i < len(v.Values) {
					c, ok := v.Values[i].(*ast.CallExpr)
					out[name.Name] = ok && isOfErrors(c.Fun, "New")
				}
			}
		}
	}
	return out
}

func isOfErrors(e ast.Expr, name string) bool {
	s, ok := e.(*ast.SelectorExpr)
	if !ok {
		return false
	}
	from, ok := s.X.(*ast.Ident)
	return ok && from.Name == "errors" && s.Sel.Name == name
}

// wrapsAnError: whether a type of the file hands out, by Unwrap, what it wraps.
func wrapsAnError(f *ast.File) bool {
	kinds, found := errorTypesOf(f), false
	for _, d := range f.Decls {
		if fn, ok := d.(*ast.FuncDecl); ok && fn.Recv != nil && fn.Name.Name == "Unwrap" {
			id, ok := fn.Recv.List[0].Type.(*ast.Ident)
			found = found || ok && kinds[id.Name]
		}
	}
	return found
}

func TestBytesOfABlockAreCutByThreeAndCopied(t *testing.T) {
	f, err := parser.ParseFile(token.NewFileSet(), "../impl/l09_block.go", nil, 0)
	if err != nil {
		t.Fatal(err)
	}
	put, get := reachedIn(f, "PutBlock"), reachedIn(f, "GetBlock")
	if !anyNode(put, isCutByThree) || !anyNode(get, isCutByThree) {
		t.Error("bytes are not cut by three indexes")
	}
	if !anyNode(put, isCopy) {
		t.Error("bytes are not copied by copy")
	}
}

func TestWhatIsNoBlockIsAWrappedError(t *testing.T) {
	f, err := parser.ParseFile(token.NewFileSet(), "../impl/l09_block.go", nil, 0)
	if err != nil {
		t.Fatal(err)
	}
	named := namedErrors(f)
	asked := anyNode([]*ast.FuncDecl{bodyOf(f, "GetBlock")}, func(n ast.Node) bool {
		c, ok := n.(*ast.CallExpr)
		if !ok || !isOfErrors(c.Fun, "Is") || len(c.Args) != 2 {
			return false
		}
		id, ok := c.Args[1].(*ast.Ident)
		return ok && named[id.Name]
	})
	if !asked || !wrapsAnError(f) {
		t.Error("what is no block is not a wrapped error, asked for by errors.Is:", named)
	}
}

// genericTypesOf: the types of a file that take types.
func genericTypesOf(f *ast.File) map[string]*ast.TypeSpec {
	out := map[string]*ast.TypeSpec{}
	ast.Inspect(f, func(n ast.Node) bool {
		if s, ok := n.(*ast.TypeSpec); ok && s.TypeParams != nil {
			out[s.Name.Name] = s
		}
		return true
	})
	return out
}

// isOneOf: whether n is one of these generic types, told of a type.
func isOneOf(n ast.Node, generics map[string]*ast.TypeSpec) bool {
	x, ok := n.(*ast.IndexExpr)
	if !ok {
		return false
	}
	id, ok := x.X.(*ast.Ident)
	return ok && generics[id.Name] != nil
}

// pointsToItsKind: whether one of these generic types has a pointer to one of its own kind.
func pointsToItsKind(generics map[string]*ast.TypeSpec) bool {
	found := false
	for name, s := range generics {
		ast.Inspect(s, func(n ast.Node) bool {
			star, ok := n.(*ast.StarExpr)
			found = found || ok && isOneOf(star.X, map[string]*ast.TypeSpec{name: s})
			return true
		})
	}
	return found
}

func TestBlocksAreReachedByPointersInAGenericTree(t *testing.T) {
	f, err := parser.ParseFile(token.NewFileSet(), "../impl/l10_tree.go", nil, 0)
	if err != nil {
		t.Fatal(err)
	}
	generics := genericTypesOf(f)
	if !pointsToItsKind(generics) {
		t.Error("no generic type points to its own kind:", generics)
	}
	for _, name := range []string{"TreeOk", "ChainOf", "Extends"} {
		if !anyNode(reachedIn(f, name), func(n ast.Node) bool { return isOneOf(n, generics) }) {
			t.Errorf("%s has no generic tree", name)
		}
	}
	for _, name := range []string{"BlockAt", "CommitOf"} {
		if !anyNode(reachedIn(f, name), answersPointer) {
			t.Errorf("%s reaches no block by a pointer", name)
		}
	}
}

func answersPointer(n ast.Node) bool {
	fn, ok := n.(*ast.FuncType)
	if !ok || fn.Results == nil {
		return false
	}
	for _, r := range fn.Results.List {
		if _, ok := r.Type.(*ast.StarExpr); ok {
			return true
		}
	}
	return false
}

// wholeProgram: the declarations of all files of the program as one file.
func wholeProgram(t *testing.T) *ast.File {
	t.Helper()
	names, _ := filepath.Glob("../impl/*.go")
	whole := &ast.File{}
	for _, name := range names {
		f, err := parser.ParseFile(token.NewFileSet(), name, nil, 0)
		if err != nil {
			t.Fatal(err)
		}
		whole.Decls = append(whole.Decls, f.Decls...)
	}
	return whole
}

// methodsAsked: the interfaces of a file, each with the names of the methods it asks for.
func methodsAsked(f *ast.File) map[string][]string {
	out := map[string][]string{}
	ast.Inspect(f, func(n ast.Node) bool {
		s, ok := n.(*ast.TypeSpec)
		if !ok {
			return true
		}
		if i, ok := s.Type.(*ast.InterfaceType); ok {
			for _, m := range i.Methods.List {
				for _, name := range m.Names {
					out[s.Name.Name] = append(out[s.Name.Name], name.Name)
				}
			}
		}
		return true
	})
	return out
}

// typesThatHave: the types of a file that have all these methods.
func typesThatHave(f *ast.File, methods []string) map[string]bool {
	has := map[string]int{}
	for _, d := range f.Decls {
		fn, ok := d.(*ast.FuncDecl)
		if !ok || fn.Recv == nil {
			continue
		}
		of, ok := fn.Recv.List[0].Type.(*ast.Ident)
		for _, name := range methods {
			if ok && fn.Name.Name == name {
				has[of.Name]++
			}
		}
	}
	out := map[string]bool{}
	for name, n := range has {
		out[name] = n == len(methods)
	}
	return out
}

// toldApart: how many of these types a type switch tells.
func toldApart(s *ast.TypeSwitchStmt, kinds map[string]bool) int {
	told := map[string]bool{}
	for _, c := range s.Body.List {
		for _, e := range c.(*ast.CaseClause).List {
			if id, ok := e.(*ast.Ident); ok && kinds[id.Name] {
				told[id.Name] = true
			}
		}
	}
	return len(told)
}

func TestAnOrderWithinIsToldByATypeSwitch(t *testing.T) {
	f, err := parser.ParseFile(token.NewFileSet(), "../impl/l11_body.go", nil, 0)
	if err != nil {
		t.Fatal(err)
	}
	whole := wholeProgram(t)
	for name, methods := range methodsAsked(f) {
		kinds := typesThatHave(f, methods)
		for _, face := range []string{"LedgerAt", "BodyOk", "MakeBody"} {
			if !anyNode(reachedIn(whole, face), func(n ast.Node) bool {
				s, ok := n.(*ast.TypeSwitchStmt)
				return ok && toldApart(s, kinds) == 3
			}) {
				t.Errorf("%s tells no %s by a type switch of three kinds: %v", face, name, kinds)
			}
		}
	}
	if len(methodsAsked(f)) != 1 {
		t.Error("an order within is no interface:", methodsAsked(f))
	}
}

// goesOnByLabel: whether a labelled loop in this function goes on, by its label, out of another loop within it.
func goesOnByLabel(fn *ast.FuncDecl) bool {
	return anyNode([]*ast.FuncDecl{fn}, func(n ast.Node) bool {
		outer, ok := n.(*ast.LabeledStmt)
		if !ok {
			return false
		}
		loop, ok := outer.Stmt.(*ast.RangeStmt)
		return ok && anyLoopWithin(loop.Body, func(n ast.Node) bool {
			b, ok := n.(*ast.BranchStmt)
			return ok && b.Tok == token.CONTINUE && b.Label != nil && b.Label.Name == outer.Label.Name
		})
	})
}

// anyLoopWithin: whether a loop in this body has a node of which this holds.
func anyLoopWithin(body *ast.BlockStmt, holds func(n ast.Node) bool) bool {
	found := false
	ast.Inspect(body, func(n ast.Node) bool {
		switch n.(type) {
		case *ast.RangeStmt, *ast.ForStmt:
			ast.Inspect(n, func(m ast.Node) bool {
				found = found || m != nil && holds(m)
				return true
			})
		}
		return true
	})
	return found
}

func TestTheLoopOverWhatWaitsGoesOnByItsLabel(t *testing.T) {
	f, err := parser.ParseFile(token.NewFileSet(), "../impl/l12_pool.go", nil, 0)
	if err != nil {
		t.Fatal(err)
	}
	if !slices.ContainsFunc(reachedIn(f, "PoolDrop"), goesOnByLabel) {
		t.Error("no loop over what waits goes on by its label")
	}
}

// fallsThrough: whether a switch in this function has a clause that does something, and falls through to the next one.
func fallsThrough(fn *ast.FuncDecl) bool {
	return anyNode([]*ast.FuncDecl{fn}, func(n ast.Node) bool {
		s, ok := n.(*ast.SwitchStmt)
		if !ok {
			return false
		}
		return slices.ContainsFunc(s.Body.List, func(c ast.Stmt) bool {
			body := c.(*ast.CaseClause).Body
			if len(body) < 2 {
				return false
			}
			b, ok := body[len(body)-1].(*ast.BranchStmt)
			return ok && b.Tok == token.FALLTHROUGH
		})
	})
}

func TestWhatAKindSignsFallsThrough(t *testing.T) {
	f, err := parser.ParseFile(token.NewFileSet(), "../impl/l13_msg.go", nil, 0)
	if err != nil {
		t.Fatal(err)
	}
	for _, name := range []string{"SigsOf", "Signed"} {
		if !slices.ContainsFunc(reachedIn(f, name), fallsThrough) {
			t.Errorf("%s: what a kind signs does not fall through to what all kinds do", name)
		}
	}
}

// isCallOf: whether n calls what has this name.
func isCallOf(n ast.Node, name string) bool {
	c, ok := n.(*ast.CallExpr)
	if !ok {
		return false
	}
	id, ok := c.Fun.(*ast.Ident)
	return ok && id.Name == name
}

// defersRecover: whether n defers a function literal that recovers.
func defersRecover(n ast.Node) bool {
	d, ok := n.(*ast.DeferStmt)
	if !ok {
		return false
	}
	lit, ok := d.Call.Fun.(*ast.FuncLit)
	if !ok {
		return false
	}
	found := false
	ast.Inspect(lit.Body, func(m ast.Node) bool {
		found = found || m != nil && isCallOf(m, "recover")
		return true
	})
	return found
}

func TestWhatANodeCannotDoGivesUp(t *testing.T) {
	f, err := parser.ParseFile(token.NewFileSet(), "../impl/l14_node.go", nil, 0)
	if err != nil {
		t.Fatal(err)
	}
	for _, name := range []string{"Hear", "LeaveRound", "Lead", "Submit", "Reboot", "ShareOf"} {
		reached := reachedIn(f, name)
		if !anyNode(reached, func(n ast.Node) bool { return isCallOf(n, "panic") }) {
			t.Errorf("%s does not give up by a panic", name)
		}
		if !anyNode(reached, defersRecover) {
			t.Errorf("%s: no deferred recover catches that", name)
		}
	}
}

// methodsOf: the methods of a file, each with the type that it is a method of ahead of its name.
func methodsOf(f *ast.File) map[string]bool {
	out := map[string]bool{}
	for _, d := range f.Decls {
		fn, ok := d.(*ast.FuncDecl)
		if !ok || fn.Recv == nil {
			continue
		}
		if of, ok := fn.Recv.List[0].Type.(*ast.Ident); ok {
			out[of.Name+"."+fn.Name.Name] = true
		}
	}
	return out
}

// methodExpressions: how many values of a map that is written out are methods told by their type.
func methodExpressions(n ast.Node, methods map[string]bool) int {
	c, ok := n.(*ast.CompositeLit)
	if !ok {
		return 0
	}
	if _, ok := c.Type.(*ast.MapType); !ok {
		return 0
	}
	many := 0
	for _, e := range c.Elts {
		s, ok := e.(*ast.KeyValueExpr).Value.(*ast.SelectorExpr)
		if !ok {
			continue
		}
		if of, ok := s.X.(*ast.Ident); ok && methods[of.Name+"."+s.Sel.Name] {
			many++
		}
	}
	return many
}

func TestWhatAnEventDoesIsAMethodExpressionInAMap(t *testing.T) {
	f, err := parser.ParseFile(token.NewFileSet(), "../impl/l15_world.go", nil, 0)
	if err != nil {
		t.Fatal(err)
	}
	methods := methodsOf(f)
	for _, name := range []string{"Do", "Play"} {
		if !anyNode(reachedIn(f, name), func(n ast.Node) bool { return methodExpressions(n, methods) == 9 }) {
			t.Errorf("%s: what an event does is no method expression in a map: %v", name, methods)
		}
	}
}

// methodValues: which methods of these are told of a value in this function, and not called there.
func methodValues(fn *ast.FuncDecl, methods map[string]bool, kind string) map[string]bool {
	of, called, out := takenAs(fn, kind), map[ast.Expr]bool{}, map[string]bool{}
	ast.Inspect(fn, func(n ast.Node) bool {
		switch x := n.(type) {
		case *ast.CallExpr:
			called[x.Fun] = true
		case *ast.SelectorExpr:
			id, ok := x.X.(*ast.Ident)
			if ok && of[id.Name] && !called[x] && methods[kind+"."+x.Sel.Name] {
				out[x.Sel.Name] = true
			}
		}
		return true
	})
	return out
}

func TestWhatIsAskedOfAWorldIsAMethodValue(t *testing.T) {
	f, err := parser.ParseFile(token.NewFileSet(), "../impl/l16_safe.go", nil, 0)
	if err != nil {
		t.Fatal(err)
	}
	for name, many := range map[string]int{"Safe": 4, "Premise": 1} {
		if values := methodValues(bodyOf(f, name), methodsOf(f), "World"); len(values) != many {
			t.Errorf("%s: what is asked is no method value: %v", name, values)
		}
	}
}

// assertsTwo: whether n tells by an assertion with two values whether something is of this type.
func assertsTwo(n ast.Node, kind string) bool {
	a, ok := n.(*ast.AssignStmt)
	if !ok || len(a.Lhs) != 2 || len(a.Rhs) != 1 {
		return false
	}
	x, ok := a.Rhs[0].(*ast.TypeAssertExpr)
	if !ok {
		return false
	}
	of, ok := x.Type.(*ast.Ident)
	return ok && of.Name == kind
}

func TestAProofIsToldByAnAssertion(t *testing.T) {
	f, err := parser.ParseFile(token.NewFileSet(), "../impl/l17_client.go", nil, 0)
	if err != nil {
		t.Fatal(err)
	}
	for _, name := range []string{"ProofOf", "FollowAll"} {
		if !anyNode(reachedIn(f, name), func(n ast.Node) bool { return assertsTwo(n, "Proof") }) {
			t.Errorf("%s: a proof is not told by an assertion with two values", name)
		}
	}
}

// embedsOf: the struct types of a file, each with the types of the file that it embeds.
func embedsOf(f *ast.File) map[string][]string {
	out := map[string][]string{}
	ast.Inspect(f, func(n ast.Node) bool {
		s, ok := n.(*ast.TypeSpec)
		if !ok {
			return true
		}
		if x, ok := s.Type.(*ast.StructType); ok {
			for _, field := range x.Fields.List {
				if of, ok := field.Type.(*ast.Ident); ok && len(field.Names) == 0 {
					out[s.Name.Name] = append(out[s.Name.Name], of.Name)
				}
			}
		}
		return true
	})
	return out
}

// receiverOf: the type that fn is a method of, also of a pointer to it, and by which name fn calls what it is a method of.
func receiverOf(fn *ast.FuncDecl) (string, string) {
	if fn.Recv == nil || len(fn.Recv.List[0].Names) == 0 {
		return "", ""
	}
	of := fn.Recv.List[0].Type
	if star, ok := of.(*ast.StarExpr); ok {
		of = star.X
	}
	id, ok := of.(*ast.Ident)
	if !ok {
		return "", ""
	}
	return id.Name, fn.Recv.List[0].Names[0].Name
}

// methodsBy: the methods of a file by the type that they are methods of, also of pointers to it.
func methodsBy(f *ast.File, of string) map[string]*ast.FuncDecl {
	out := map[string]*ast.FuncDecl{}
	for _, d := range f.Decls {
		if fn, ok := d.(*ast.FuncDecl); ok {
			if kind, _ := receiverOf(fn); kind == of {
				out[fn.Name.Name] = fn
			}
		}
	}
	return out
}

// callsOnItself: which of these methods fn calls on what it is a method of.
func callsOnItself(fn *ast.FuncDecl, methods map[string]*ast.FuncDecl) map[string]bool {
	_, self := receiverOf(fn)
	out := map[string]bool{}
	ast.Inspect(fn, func(n ast.Node) bool {
		if c, ok := n.(*ast.CallExpr); ok {
			if s, ok := c.Fun.(*ast.SelectorExpr); ok && methods[s.Sel.Name] != nil {
				id, ok := s.X.(*ast.Ident)
				out[s.Sel.Name] = out[s.Sel.Name] || ok && id.Name == self
			}
		}
		return true
	})
	return out
}

// clearsOfItself: whether fn clears a field of what it is a method of.
func clearsOfItself(fn *ast.FuncDecl) bool {
	_, self := receiverOf(fn)
	return anyNode([]*ast.FuncDecl{fn}, func(n ast.Node) bool {
		if !isCallOf(n, "clear") {
			return false
		}
		s, ok := n.(*ast.CallExpr).Args[0].(*ast.SelectorExpr)
		if !ok {
			return false
		}
		id, ok := s.X.(*ast.Ident)
		return ok && id.Name == self
	})
}

func TestRoundsEmbedWhatAllOfThemHave(t *testing.T) {
	f, err := parser.ParseFile(token.NewFileSet(), "../impl/l18_quiet.go", nil, 0)
	if err != nil {
		t.Fatal(err)
	}
	promoted, cleared := map[string]bool{}, false
	for kind, embedded := range embedsOf(f) {
		for _, part := range embedded {
			methods := methodsBy(f, part)
			for _, fn := range methodsBy(f, kind) {
				for name, calls := range callsOnItself(fn, methods) {
					promoted[name] = promoted[name] || calls
					cleared = cleared || calls && clearsOfItself(methods[name])
				}
			}
		}
	}
	if !promoted["exchange"] || !promoted["drain"] {
		t.Error("rounds have no promoted methods of what they embed:", embedsOf(f), promoted)
	}
	if !cleared {
		t.Error("what was heard is not cleared for each")
	}
}
