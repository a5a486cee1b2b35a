package writ_test

import (
	"go/ast"
	"go/parser"
	"go/token"
	"path/filepath"
	"strings"
	"testing"
)

// layers are the packages of the program.
const layers = "limb field curve digest domain share feld schnorr parcel disk ledger link agenda beat king cast dkg bind " +
	"signer gather roast queue note node oracle bench writ audit"

// rootOf is the variable of which something is a part, or "".
func rootOf(e ast.Expr) string {
	switch x := e.(type) {
	case *ast.Ident:
		return x.Name
	case *ast.ParenExpr:
		return rootOf(x.X)
	case *ast.SelectorExpr:
		return rootOf(x.X)
	case *ast.IndexExpr:
		return rootOf(x.X)
	}
	return ""
}

// lent is the variable whose address, or a part's, an argument is, or "".
func lent(e ast.Expr) string {
	if x, is := e.(*ast.UnaryExpr); is && x.Op == token.AND {
		return rootOf(x.X)
	}
	return ""
}

// reads tells whether expressions read a variable anywhere but in a call's arguments.
func reads(l []ast.Expr, name string, call *ast.CallExpr) bool {
	found := false
	for _, e := range l {
		ast.Inspect(e, func(n ast.Node) bool {
			switch x := n.(type) {
			case *ast.CallExpr:
				return x != call
			case *ast.FuncLit:
				return false
			case *ast.UnaryExpr:
				return lent(x) != name
			case *ast.SelectorExpr:
				found = found || reads([]ast.Expr{x.X}, name, call)
				return false
			case *ast.KeyValueExpr:
				found = found || reads([]ast.Expr{x.Value}, name, call)
				return false
			case *ast.Ident:
				found = found || x.Name == name
			}
			return true
		})
	}
	return found
}

// open is a variable that is read beside a call that is given its address, or "". (What stands on both sides of && and || is in
// order.)
func open(l []ast.Expr) string {
	found := ""
	for _, e := range l {
		ast.Inspect(e, func(n ast.Node) bool {
			switch x := n.(type) {
			case *ast.BinaryExpr:
				if x.Op == token.LAND || x.Op == token.LOR {
					found += open([]ast.Expr{x.X}) + open([]ast.Expr{x.Y})
					return false
				}
			case *ast.CallExpr:
				for _, arg := range x.Args {
					if name := lent(arg); name != "" && reads(l, name, x) {
						found = name
					}
				}
			}
			return true
		})
	}
	return found
}

// together are the expressions of a statement that have no order but that of their calls.
func together(n ast.Node) []ast.Expr {
	switch x := n.(type) {
	case *ast.ReturnStmt:
		return x.Results
	case *ast.AssignStmt:
		if x.Tok != token.ASSIGN && x.Tok != token.DEFINE {
			return append([]ast.Expr{x.Lhs[0]}, x.Rhs...)
		}
		return x.Rhs
	case *ast.ExprStmt:
		return []ast.Expr{x.X}
	case *ast.IfStmt:
		return []ast.Expr{x.Cond}
	case *ast.CaseClause:
		return x.List
	case *ast.ValueSpec:
		return x.Values
	}
	return nil
}

// openIn are the places of a file where a variable is read beside a call that is given its address.
func openIn(t *testing.T, name string, source any) []string {
	t.Helper()
	set := token.NewFileSet()
	file, e := parser.ParseFile(set, name, source, 0)
	if e != nil {
		t.Fatal(e)
	}
	var out []string
	ast.Inspect(file, func(n ast.Node) bool {
		if name := open(together(n)); name != "" {
			out = append(out, set.Position(n.Pos()).String()+": "+name)
		}
		return true
	})
	return out
}

// 27.1, and so everywhere: what is answered hangs on no order that the language leaves open. A compiler keeps to one, so
// this is looked for in the text: no statement reads a variable beside a call that is given its address.
func TestOrder(t *testing.T) {
	for _, layer := range strings.Fields(layers) {
		names, e := filepath.Glob("../" + layer + "/*.go")
		if e != nil || len(names) == 0 {
			t.Fatalf("%s: %v, %v", layer, names, e)
		}
		for _, name := range names {
			for _, place := range openIn(t, name, nil) {
				t.Errorf("%s is read beside a call that may write it", place)
			}
		}
	}
}

// The search for such statements finds them, and no others.
func TestOrderIsSeen(t *testing.T) {
	for text, want := range map[string]int{
		"return c, f(&c)":               1,
		"return f(&c), c":               1,
		"return f(&c.N) + c.N":          1,
		"return g(c.N, f(&c))":          1,
		"return T{c: c, is: f(&c)}":     1,
		"l := []int{c, f(&c)}; use(l)":  1,
		"n += f(&n)":                    1,
		"if c[0] == f(&c) { use() }":    1,
		"switch { case c == f(&c): }":   1,
		"var a, b = c, f(&c); use(a)":   1,
		"use(a && f(&c) == c)":          1,
		"is := f(&c); return c, is":     0,
		"return f(&c, c.N), d":          0,
		"return f(&c), g(&c)":           0,
		"return T{c: d, is: f(&c)}":     0,
		"return c == d && f(&c)":        0,
		"c.N = f(&c)":                   0,
		"if is := f(&c); is { use(c) }": 0,
	} {
		if got := openIn(t, "x.go", "package x\nfunc x() {\n"+text+"\n}\n"); len(got) != want {
			t.Errorf("%s: %v", text, got)
		}
	}
}
