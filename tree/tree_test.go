package tree

import (
	"strconv"
	"strings"
	"testing"

	"servitor/api"
)

// P18.1: the chapter's example.
func TestExample(t *testing.T) {
	const text = "PROGRAM p VAR a : INT := -3; END_VAR a := a + 1; END_PROGRAM"
	tryTree(t, text, "p (a 0:1=-3) {assign a (+ a 1)}")
	tryLines(t, text, "p (a@1 0:1=-3) {assign@1 a@1 (+@1 a@1 1@1)}")
}

// P18.1: a tree whole, as api has it.
func TestWhole(t *testing.T) {
	p := parsed(t, "PROGRAM main\nVAR_OUTPUT q : BOOL := TRUE; l : ARRAY [ 2 .. 7 ] OF INT; END_VAR\nl[1] := t.Q;\nEND_PROGRAM")
	if p.Name != "main" || len(p.Vars) != 2 || len(p.Body) != 1 {
		t.Fatal(p)
	}
	if p.Vars[0] != (api.Var{Name: "q", Type: 2, Section: 2, Init: 1, Line: 2}) || p.Vars[1] != (api.Var{Name: "l", Type: 1, Section: 2, Array: true, Lo: 2, Hi: 7, Line: 2}) {
		t.Error(p.Vars)
	}
	s := p.Body[0]
	to, index, val := s.To, s.To.Sub[0], s.Val
	if s.Op != 1 || s.Line != 3 || to.Op != 4 || to.Name != "l" || to.Line != 3 || index.Op != 1 || index.N != 1 || index.Line != 3 || val.Op != 5 || val.Name != "t" || val.Field != "Q" || val.Line != 3 {
		t.Error(s)
	}
}

// P18.1: the names in api stand for the document's numbers.
func TestNumbersInApi(t *testing.T) {
	if api.MaxVars != 64 || api.MaxDeep != 32 || api.MaxBound != 255 || api.MaxText != 16384 {
		t.Error(api.MaxVars, api.MaxDeep, api.MaxBound, api.MaxText)
	}
	if api.OK != 0 || api.ErrArg != 1 || api.ErrOver != 2 || api.ErrForm != 5 || api.ErrName != 9 || api.ErrLong != 13 {
		t.Error(api.OK, api.ErrArg, api.ErrOver, api.ErrForm, api.ErrName, api.ErrLong)
	}
	exprs := []int{api.ExNum, api.ExBool, api.ExVar, api.ExIndex, api.ExField, api.ExNeg, api.ExNot, api.ExAdd, api.ExSub, api.ExMul, api.ExDiv, api.ExMod, api.ExEq, api.ExNe, api.ExLt, api.ExGt, api.ExLe, api.ExGe, api.ExAnd, api.ExXor, api.ExOr}
	stmts := []int{api.StAssign, api.StIf, api.StCase, api.StFor, api.StWhile, api.StRepeat, api.StExit, api.StReturn, api.StCall}
	for _, list := range [][]int{exprs, stmts} {
		for i, n := range list {
			if n != i+1 {
				t.Error(list)
			}
		}
	}
	if api.Int != 1 || api.Bool != 2 || api.Inner != 0 || api.Input != 1 || api.Output != 2 {
		t.Error(api.Int, api.Bool, api.Inner, api.Input, api.Output)
	}
}

// P18.1: each line of the grammar, with its parts there and not there.
func TestRows(t *testing.T) {
	for _, c := range rows() {
		tryTree(t, c.text, c.tree)
	}
}

// P18.1: each kind of block is a type, in each section, alone and in a list.
func TestEachBlock(t *testing.T) {
	for name, kind := range blockKinds() {
		n := strconv.Itoa(kind)
		tryTree(t, wrapped("VAR a : "+name+"; END_VAR"), "p (a 0:"+n+"=0) {}")
		tryTree(t, wrapped("VAR_INPUT a, "+name+" : "+name+"; b : INT := 3; END_VAR"), "p (a 1:"+n+"=0, "+name+" 1:"+n+"=0, b 1:1=3) {}")
		tryTree(t, wrapped("VAR_OUTPUT b : BOOL := TRUE; a : "+name+"; END_VAR"), "p (b 2:2=1, a 2:"+n+"=0) {}")
	}
}

// levels of operations of two, the loosest first.
func levels() [][]string {
	return [][]string{{"OR"}, {"XOR"}, {"AND"}, {"=", "<>", "<", ">", "<=", ">="}, {"+", "-"}, {"*", "/", "MOD"}}
}

// levelOfSign by that list.
func levelOfSign(sign string) int {
	for i, level := range levels() {
		for _, s := range level {
			if s == sign {
				return i
			}
		}
	}
	return -1
}

// binaries are all operations of two.
func binaries() []string {
	var all []string
	for _, level := range levels() {
		all = append(all, level...)
	}
	return all
}

// tryExpr of an assignment's value.
func tryExpr(t *testing.T, text, want string) {
	t.Helper()
	tryTree(t, wrapped("x := "+text+";"), "p () {assign x "+want+"}")
}

// P18.1: each operation alone, and those of one ahead of either side.
func TestEachOperation(t *testing.T) {
	for _, op := range binaries() {
		tryExpr(t, "a "+op+" b", "("+op+" a b)")
		tryExpr(t, "-a "+op+" b", "("+op+" (neg a) b)")
		tryExpr(t, "NOT a "+op+" b", "("+op+" (not a) b)")
		tryExpr(t, "a "+op+" -b", "("+op+" a (neg b))")
		tryExpr(t, "a "+op+" NOT b", "("+op+" a (not b))")
		tryExpr(t, "a "+op+" - NOT - b", "("+op+" a (neg (not (neg b))))")
		tryExpr(t, "-(a "+op+" b)", "(neg ("+op+" a b))")
		tryExpr(t, "NOT(a "+op+" b)", "(not ("+op+" a b))")
		tryExpr(t, "(a) "+op+" (b)", "("+op+" a b)")
		tryExpr(t, "a[1] "+op+" b.c", "("+op+" a[1] b.c)")
		tryExpr(t, "a.b "+op+" TRUE", "("+op+" a.b T1)")
		tryExpr(t, "1 "+op+" b[2]", "("+op+" 1 b[2])")
		tryExpr(t, "a[b "+op+" c]", "a[("+op+" b c)]")
	}
}

// P18.1: each operation beside each other one: what binds more tightly, from the left on one level, and a comparison alone.
func TestEachPairOfOperations(t *testing.T) {
	for _, first := range binaries() {
		for _, second := range binaries() {
			left := "(" + second + " (" + first + " a b) c)"
			right := "(" + first + " a (" + second + " b c))"
			text := "a " + first + " b " + second + " c"
			one, two := levelOfSign(first), levelOfSign(second)
			switch {
			case one == 3 && two == 3:
				tryError(t, wrapped("x := a "+first+" b @"+second+" c;"), 5)
			case one >= two:
				tryExpr(t, text, left)
			default:
				tryExpr(t, text, right)
			}
			tryExpr(t, "(a "+first+" b) "+second+" c", left)
			tryExpr(t, "a "+first+" (b "+second+" c)", right)
		}
	}
}

// P18.1: a row of one operation belongs together from the left; of a comparison the second one doesn't fit.
func TestRowsOfOneOperation(t *testing.T) {
	for _, op := range binaries() {
		text, want := "a", "a"
		for range 5 {
			text += " " + op + " b"
			want = "(" + op + " " + want + " b)"
		}
		if levelOfSign(op) == 3 {
			tryError(t, wrapped("x := a "+op+" b @"+op+" c "+op+" d;"), 5)
		} else {
			tryExpr(t, text, want)
		}
	}
}

// P18.1: where no comparison may stand beside another, one may on either side of what is looser.
func TestComparisonsApart(t *testing.T) {
	for _, first := range levels()[3] {
		for _, second := range levels()[3] {
			for _, op := range []string{"OR", "XOR", "AND"} {
				tryExpr(t, "a "+first+" b "+op+" c "+second+" d", "("+op+" ("+first+" a b) ("+second+" c d))")
			}
			for _, op := range []string{"+", "-", "*", "/", "MOD"} {
				tryError(t, wrapped("x := a "+first+" b "+op+" c @"+second+" d;"), 5)
			}
		}
	}
}

// P18.1: where an expression may stand, each one may.
func TestEachPlaceOfExpressions(t *testing.T) {
	for _, c := range exprRows() {
		text, _ := strings.CutPrefix(c.text, "PROGRAM p a := ")
		text, _ = strings.CutSuffix(text, "; END_PROGRAM")
		tree, _ := strings.CutPrefix(c.tree, "p () {assign a ")
		tree, _ = strings.CutSuffix(tree, "}")
		for _, place := range []row{
			{"x[# ] := 1;", "assign x[#] 1"},
			{"x := y[#];", "assign x y[#]"},
			{"x := (#);", "assign x #"},
			{"x := NOT (#);", "assign x (not #)"},
			{"x(y := #);", "call x(y: #)"},
			{"x(y := #, z := #);", "call x(y, z: #, #)"},
			{"IF # THEN ELSIF # THEN END_IF;", "if #, # {} {}"},
			{"CASE # OF 1: ELSE END_CASE;", "case # <1 1> {} {}"},
			{"FOR x := # TO # DO END_FOR;", "for x #, #, 1 {}"},
			{"FOR x := # TO # BY # DO END_FOR;", "for x #, #, # {}"},
			{"WHILE # DO END_WHILE;", "while # {}"},
			{"REPEAT UNTIL # END_REPEAT;", "repeat # {}"},
		} {
			tryTree(t, wrapped(strings.ReplaceAll(place.text, "#", text)), "p () {"+strings.ReplaceAll(place.tree, "#", tree)+"}")
		}
	}
}

// P18.1: lines, with a newline between all signs.
func TestLines(t *testing.T) {
	for _, c := range []row{
		{"PROGRAM p VAR a , b : INT := - 3 ; c : TON ; END_VAR VAR_INPUT d : ARRAY [ 1 .. 2 ] OF BOOL ; END_VAR END_PROGRAM",
			"p (a@4 0:1=-3, b@6 0:1=-3, c@13 0:10=0, d@19 1:2[true 1 2]=0) {}"},
		{wrapped("a := 1 ; b [ 2 ] := c . d ;"), "p () {assign@3 a@3 1@5; assign@7 b@7[2@9] c.d@12}"},
		{wrapped("a := - b + NOT c * TRUE ;"), "p () {assign@3 a@3 (+@7 (neg@5 b@6) (*@10 (not@8 c@9) T1@11))}"},
		{wrapped("a := ( ( 1 + 2 ) ) < ( FALSE ) ;"), "p () {assign@3 a@3 (<@12 (+@8 1@7 2@9) T0@14)}"},
		{wrapped("a := b OR c OR d [ 5 MOD 6 ] ;"), "p () {assign@3 a@3 (OR@8 (OR@6 b@5 c@7) d@9[(MOD@12 5@11 6@13)])}"},
		{wrapped("t ( ) ; t ( x := 1 , y := z ) ;"), "p () {call@3 t(: ); call@7 t(x, y: 1@11, z@15)}"},
		{wrapped("IF a THEN b := 1 ; ELSIF c THEN EXIT ; ELSE RETURN ; END_IF ;"), "p () {if@3 a@4, c@11 {assign@6 b@6 1@8} {exit@13} {return@16}}"},
		{wrapped("CASE a OF 1 , - 2 : EXIT ; 3 : ELSE t ( ) ; END_CASE ;"), "p () {case@3 a@4 <1 1 -2 -2> <3 3> {exit@11} {} {call@16 t(: )}}"},
		{wrapped("FOR a := 1 TO 2 DO EXIT ; END_FOR ;"), "p () {for@3 a 1@6, 2@8, 1@9 {exit@10}}"},
		{wrapped("FOR a := 1 TO 2 BY 3 DO EXIT ; END_FOR ;"), "p () {for@3 a 1@6, 2@8, 3@10 {exit@12}}"},
		{wrapped("FOR a := ( 1 ) TO b + 2 BY - 3 DO END_FOR ;"), "p () {for@3 a 1@7, (+@11 b@10 2@12), (neg@14 3@15) {}}"},
		{wrapped("WHILE a DO EXIT ; END_WHILE ; RETURN ;"), "p () {while@3 a@4 {exit@6}; return@10}"},
		{wrapped("REPEAT EXIT ; UNTIL ( a ) END_REPEAT ;"), "p () {repeat@3 a@8 {exit@4}}"},
	} {
		tryLines(t, strings.ReplaceAll(c.text, " ", "\n"), c.tree)
		tryLines(t, "\n(* x\n*) // y\n"+strings.ReplaceAll(c.text, " ", "\n\n(* \n *)\n"), farther(c.tree, 4, 4))
	}
}

// farther is a tree with its lines (counted from 1) set apart: so many between two, and the first one behind so many.
func farther(tree string, apart, first int) string {
	parts := strings.Split(tree, "@")
	for i := 1; i < len(parts); i++ {
		long := 0
		for long < len(parts[i]) && parts[i][long] >= '0' && parts[i][long] <= '9' {
			long++
		}
		n, _ := strconv.Atoi(parts[i][:long])
		parts[i] = strconv.Itoa((n-1)*apart+first) + parts[i][long:]
	}
	return strings.Join(parts, "@")
}

// P18.1: nothing is where parts signs, nor in how numbers are written.
func TestPartsSigns(t *testing.T) {
	tight := "PROGRAM p VAR a:ARRAY[1..3]OF INT;t:TON;END_VAR a[1]:=-(1-2)*t.Q;t(IN:=1,PT:=2);CASE a OF-1..-2,3:EXIT;ELSE RETURN;END_CASE;END_PROGRAM"
	tryTree(t, tight, "p (a 0:1[true 1 3]=0, t 0:10=0) {assign a[1] (* (neg (- 1 2)) t.Q); call t(IN, PT: 1, 2); case a <-1 -2 3 3> {exit} {return}}")
	tryTree(t, "(* a *)PROGRAM(**)p// x\nEND_PROGRAM// y", "p () {}")
	tryTree(t, "\t\n PROGRAM p\ta\n:=\t16#F;\n\nEND_PROGRAM \n", "p () {assign a 15}")
}
