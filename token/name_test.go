package token_test

import (
	"go/ast"
	"go/parser"
	gotoken "go/token"
	"os"
	"strings"
	"testing"

	"rubricator/api"
	"rubricator/token"
)

func TestNames(t *testing.T) { // P13.1: NAME, behind (?< and behind \k<
	twenty := "a_2345678901234567Z9"
	for _, c := range []struct {
		name string
		ok   bool
	}{
		{"a", true}, {"Z", true}, {"_", true}, {"__", true}, {"a1", true}, {"_1", true}, {"ab", true}, {"a_b", true}, {"z09", true},
		{twenty[:19], true}, {twenty, true}, {"_" + twenty[1:], true}, {strings.Repeat("_", 20), true}, {strings.Repeat("x", 20), true},
		{"", false}, {"1", false}, {"1a", false}, {"0_", false}, {"9" + twenty[1:], false}, {"-", false}, {"a-", false}, {"é", false}, {"aé", false}, {" a", false}, {"<", false},
		{twenty + "a", false}, {twenty + "1", false}, {twenty + "_", false}, {"_" + twenty, false}, {strings.Repeat("x", 21), false}, {strings.Repeat("x", 40), false},
	} {
		for _, x := range []struct {
			ahead string
			token api.Token
			none  api.Errno
		}{
			{"(?<", open(2, c.name), api.ErrMark}, {`\k<`, back(0, c.name), api.ErrEscape},
		} {
			p := x.ahead + c.name + ">"
			l, f := token.Scan([]byte(p))
			x.token.End = len(p)
			switch {
			case c.ok && (f != (api.Fault{}) || len(l) != 1 || l[0] != x.token):
				t.Errorf("Scan(%q) = %v, fault %v, want %v", p, l, f, x.token)
			case !c.ok && (f != (api.Fault{Code: x.none}) || len(l) != 0):
				t.Errorf("Scan(%q) = %v, fault %v, want %v at 0", p, l, f, x.none)
			}
		}
	}
}

// TestOneOrder: Go leaves open whether a field is read ahead of a call that stands in the same statement; no run can tell that an answer hangs on it, so the text is asked.
func TestOneOrder(t *testing.T) { // P13.1, by the rule From arguments alone
	files, err := os.ReadDir(".")
	if err != nil {
		t.Fatal(err)
	}
	set := gotoken.NewFileSet()
	seen := 0
	for _, f := range files {
		if !strings.HasSuffix(f.Name(), ".go") || strings.HasSuffix(f.Name(), "_test.go") {
			continue
		}
		file, err := parser.ParseFile(set, f.Name(), nil, 0)
		if err != nil {
			t.Fatal(err)
		}
		ast.Inspect(file, func(n ast.Node) bool {
			calls, reads := 0, 0
			for _, x := range operands(n) {
				c, r := ofScanner(x)
				calls, reads = calls+c, reads+r
				seen++
			}
			if calls > 0 && reads > 0 {
				t.Errorf("%v: a call of the scanner and a field of it, read in one statement", set.Position(n.Pos()))
			}
			return true
		})
	}
	if seen < 50 {
		t.Errorf("only %d operands seen", seen)
	}
}

// operands is the expressions of a statement that Go may read in any order.
func operands(n ast.Node) []ast.Expr {
	switch x := n.(type) {
	case *ast.AssignStmt:
		return x.Rhs
	case *ast.ReturnStmt:
		return x.Results
	case *ast.ExprStmt:
		return []ast.Expr{x.X}
	}
	return nil
}

// ofScanner is how often an expression calls methods of the scanner s, and reads its fields.
func ofScanner(x ast.Expr) (calls, reads int) {
	ast.Inspect(x, func(n ast.Node) bool {
		switch y := n.(type) {
		case *ast.CallExpr:
			if f, ok := y.Fun.(*ast.SelectorExpr); ok && isScanner(f.X) {
				calls++
				reads-- // the method's own name is none
			}
		case *ast.SelectorExpr:
			if isScanner(y.X) {
				reads++
			}
		}
		return true
	})
	return calls, reads
}

func isScanner(x ast.Expr) bool {
	id, ok := x.(*ast.Ident)
	return ok && id.Name == "s"
}
