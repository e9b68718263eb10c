package show

import (
	"math"
	"testing"

	"servitor/api"
	"servitor/tree"
)

// P19.1: the chapter's example.
func TestExample(t *testing.T) {
	p := of(assign(name("a"), two(num(1), 8, neg(name("b")))))
	tryText(t, p, "PROGRAM p\na := (1 + (-b));\nEND_PROGRAM\n")
}

// The document's numbers, as api names them, are what these tests write.
func TestNumbersInApi(t *testing.T) {
	got := []int{
		api.ExNum, api.ExBool, api.ExVar, api.ExIndex, api.ExField, api.ExNeg, api.ExNot, api.ExAdd, api.ExSub, api.ExMul, api.ExDiv, api.ExMod,
		api.ExEq, api.ExNe, api.ExLt, api.ExGt, api.ExLe, api.ExGe, api.ExAnd, api.ExXor, api.ExOr,
		api.StAssign, api.StIf, api.StCase, api.StFor, api.StWhile, api.StRepeat, api.StExit, api.StReturn, api.StCall,
		api.Inner, api.Input, api.Output, api.Int, api.Bool, int(api.OK), int(api.ErrForm), int(api.ErrLong), api.MaxVars, api.MaxBound, api.MaxName, api.MaxText, api.MaxDeep,
	}
	want := []int{1, 2, 3, 4, 5, 6, 7, 8, 9, 10, 11, 12, 13, 14, 15, 16, 17, 18, 19, 20, 21, 1, 2, 3, 4, 5, 6, 7, 8, 9, 0, 1, 2, 1, 2, 0, 5, 13, 64, 255, 16, 16384, 32}
	if len(got) != len(want) {
		t.Fatal(len(got), len(want))
	}
	for i := range got {
		if got[i] != want[i] {
			t.Errorf("%d: %d, not %d", i, got[i], want[i])
		}
	}
}

// P19.1: a program of its name alone; each name as it is written.
func TestNames(t *testing.T) {
	for _, n := range []string{"p", "P", "z9", "a_", "x__1", "AbCdEfGhIjKlMnOp", "Program", "if", "TON", "ENDVAR", "T", "MC_Power"} {
		tryText(t, api.Program{Name: n}, "PROGRAM "+n+"\nEND_PROGRAM\n")
		tryText(t, of(call(n, nil)), "PROGRAM p\n"+n+"();\nEND_PROGRAM\n")
		tryText(t, of(assign(name(n), field(n, n))), "PROGRAM p\n"+n+" := "+n+"."+n+";\nEND_PROGRAM\n")
		tryText(t, having(api.Var{Name: n, Type: 2}), "PROGRAM p\nVAR\n"+n+" : BOOL := FALSE;\nEND_VAR\nEND_PROGRAM\n")
	}
	tryText(t, api.Program{Name: "p", Vars: []api.Var{}, Body: []api.Stmt{}}, "PROGRAM p\nEND_PROGRAM\n")
}

// P19.1: a variable of each section, type and value.
func TestVariables(t *testing.T) {
	for _, c := range []struct {
		v    api.Var
		want string
	}{
		{api.Var{Name: "a", Type: 1}, "VAR\na : INT := 0;\n"},
		{api.Var{Name: "a", Type: 1, Section: 1}, "VAR_INPUT\na : INT := 0;\n"},
		{api.Var{Name: "a", Type: 1, Section: 2}, "VAR_OUTPUT\na : INT := 0;\n"},
		{api.Var{Name: "a", Type: 1, Init: 1}, "VAR\na : INT := 1;\n"},
		{api.Var{Name: "a", Type: 1, Init: -1}, "VAR\na : INT := -1;\n"},
		{api.Var{Name: "a", Type: 1, Init: 1234567890}, "VAR\na : INT := 1234567890;\n"},
		{api.Var{Name: "a", Type: 1, Init: math.MaxInt64}, "VAR\na : INT := 9223372036854775807;\n"},
		{api.Var{Name: "a", Type: 1, Init: math.MinInt64 + 1}, "VAR\na : INT := -9223372036854775807;\n"},
		{api.Var{Name: "b", Type: 2}, "VAR\nb : BOOL := FALSE;\n"},
		{api.Var{Name: "b", Type: 2, Init: 1}, "VAR\nb : BOOL := TRUE;\n"},
		{api.Var{Name: "b", Type: 2, Init: 1, Section: 1}, "VAR_INPUT\nb : BOOL := TRUE;\n"},
		{api.Var{Name: "b", Type: 2, Section: 2}, "VAR_OUTPUT\nb : BOOL := FALSE;\n"},
		{api.Var{Name: "c", Type: 1, Array: true}, "VAR\nc : ARRAY[0..0] OF INT;\n"},
		{api.Var{Name: "c", Type: 2, Array: true}, "VAR\nc : ARRAY[0..0] OF BOOL;\n"},
		{api.Var{Name: "c", Type: 1, Array: true, Lo: 1, Hi: 3, Section: 1}, "VAR_INPUT\nc : ARRAY[1..3] OF INT;\n"},
		{api.Var{Name: "c", Type: 2, Array: true, Hi: 255, Section: 2}, "VAR_OUTPUT\nc : ARRAY[0..255] OF BOOL;\n"},
		{api.Var{Name: "c", Type: 1, Array: true, Lo: 255, Hi: 255}, "VAR\nc : ARRAY[255..255] OF INT;\n"},
		{api.Var{Name: "c", Type: 2, Array: true, Lo: 254, Hi: 255}, "VAR\nc : ARRAY[254..255] OF BOOL;\n"},
		{api.Var{Name: "d", Type: 10}, "VAR\nd : TON;\n"},
		{api.Var{Name: "d", Type: 11, Section: 1}, "VAR_INPUT\nd : TOF;\n"},
		{api.Var{Name: "d", Type: 12, Section: 2}, "VAR_OUTPUT\nd : TP;\n"},
		{api.Var{Name: "d", Type: 13}, "VAR\nd : CTU;\n"},
		{api.Var{Name: "d", Type: 14}, "VAR\nd : CTD;\n"},
		{api.Var{Name: "d", Type: 15}, "VAR\nd : R_TRIG;\n"},
		{api.Var{Name: "d", Type: 16}, "VAR\nd : F_TRIG;\n"},
		{api.Var{Name: "d", Type: 17}, "VAR\nd : SR;\n"},
		{api.Var{Name: "d", Type: 18}, "VAR\nd : RS;\n"},
		{api.Var{Name: "d", Type: 20}, "VAR\nd : MC_Power;\n"},
		{api.Var{Name: "d", Type: 21}, "VAR\nd : MC_Home;\n"},
		{api.Var{Name: "d", Type: 22}, "VAR\nd : MC_Stop;\n"},
		{api.Var{Name: "d", Type: 23}, "VAR\nd : MC_Halt;\n"},
		{api.Var{Name: "d", Type: 24}, "VAR\nd : MC_MoveAbsolute;\n"},
		{api.Var{Name: "d", Type: 25}, "VAR\nd : MC_MoveRelative;\n"},
		{api.Var{Name: "d", Type: 26}, "VAR\nd : MC_MoveAdditive;\n"},
		{api.Var{Name: "d", Type: 27}, "VAR\nd : MC_MoveVelocity;\n"},
		{api.Var{Name: "d", Type: 28}, "VAR\nd : MC_GearIn;\n"},
		{api.Var{Name: "d", Type: 29}, "VAR\nd : MC_Reset;\n"},
		{api.Var{Name: "d", Type: 30}, "VAR\nd : MC_SetPosition;\n"},
		{api.Var{Name: "d", Type: 31}, "VAR\nd : MC_SetOverride;\n"},
	} {
		tryText(t, having(c.v), "PROGRAM p\n"+c.want+"END_VAR\nEND_PROGRAM\n")
	}
}

// P19.1: variables one behind the other, each in a section of its own; a name may be there twice.
func TestManyVariables(t *testing.T) {
	p := having(api.Var{Name: "b", Type: 1, Section: 1}, api.Var{Name: "a", Type: 1, Section: 1}, api.Var{Name: "b", Type: 17}, api.Var{Name: "c", Type: 2, Section: 2, Init: 1})
	p.Body = body(exit())
	tryText(t, p, "PROGRAM p\nVAR_INPUT\nb : INT := 0;\nEND_VAR\nVAR_INPUT\na : INT := 0;\nEND_VAR\nVAR\nb : SR;\nEND_VAR\nVAR_OUTPUT\nc : BOOL := TRUE;\nEND_VAR\nEXIT;\nEND_PROGRAM\n")
}

// P19.1: 64 variables are a program, 65 are none.
func TestMostVariables(t *testing.T) {
	p := having()
	want := "PROGRAM p\n"
	for range 64 {
		p.Vars = append(p.Vars, api.Var{Name: "a", Type: 2})
		want += "VAR\na : BOOL := FALSE;\nEND_VAR\n"
	}
	tryText(t, p, want+"END_PROGRAM\n")
	p.Vars = append(p.Vars, api.Var{Name: "a", Type: 2})
	tryFails(t, "65", p, 5)
	p.Vars = append(p.Vars, p.Vars...)
	tryFails(t, "130", p, 5)
}

// tryLines of statements between the first line of a program and its last one.
func tryLines(t *testing.T, want string, ss ...api.Stmt) {
	t.Helper()
	tryText(t, of(ss...), "PROGRAM p\n"+want+"END_PROGRAM\n")
}

// P19.1: an expression of each kind.
func TestExpressions(t *testing.T) {
	a, b := name("a"), name("b")
	for _, c := range []struct {
		x    api.Expr
		want string
	}{
		{num(0), "0"},
		{num(7), "7"},
		{num(1000000), "1000000"},
		{num(math.MaxInt64), "9223372036854775807"},
		{yes(), "TRUE"},
		{no(), "FALSE"},
		{name("Ab_1"), "Ab_1"},
		{index("l", num(3)), "l[3]"},
		{index("l", a), "l[a]"},
		{index("l", index("m", num(1))), "l[m[1]]"},
		{index("l", two(a, 8, num(1))), "l[(a + 1)]"},
		{index("l", neg(a)), "l[(-a)]"},
		{field("t", "Q"), "t.Q"},
		{neg(a), "(-a)"},
		{neg(num(5)), "(-5)"},
		{neg(num(0)), "(-0)"},
		{neg(neg(a)), "(-(-a))"},
		{neg(not(a)), "(-(NOT a))"},
		{neg(index("l", a)), "(-l[a])"},
		{neg(two(a, 9, b)), "(-(a - b))"},
		{not(a), "(NOT a)"},
		{not(yes()), "(NOT TRUE)"},
		{not(neg(a)), "(NOT (-a))"},
		{not(not(a)), "(NOT (NOT a))"},
		{not(field("t", "Q")), "(NOT t.Q)"},
		{not(two(a, 19, b)), "(NOT (a AND b))"},
		{two(a, 8, b), "(a + b)"},
		{two(a, 9, b), "(a - b)"},
		{two(a, 10, b), "(a * b)"},
		{two(a, 11, b), "(a / b)"},
		{two(a, 12, b), "(a MOD b)"},
		{two(a, 13, b), "(a = b)"},
		{two(a, 14, b), "(a <> b)"},
		{two(a, 15, b), "(a < b)"},
		{two(a, 16, b), "(a > b)"},
		{two(a, 17, b), "(a <= b)"},
		{two(a, 18, b), "(a >= b)"},
		{two(a, 19, b), "(a AND b)"},
		{two(a, 20, b), "(a XOR b)"},
		{two(a, 21, b), "(a OR b)"},
		{two(num(1), 8, neg(num(2))), "(1 + (-2))"},
		{two(neg(num(1)), 9, neg(num(2))), "((-1) - (-2))"},
		{two(a, 9, two(b, 9, num(1))), "(a - (b - 1))"},
		{two(two(a, 9, b), 9, num(1)), "((a - b) - 1)"},
		{two(two(a, 15, b), 15, yes()), "((a < b) < TRUE)"},
		{two(a, 15, two(b, 13, no())), "(a < (b = FALSE))"},
		{two(a, 10, two(b, 8, num(3))), "(a * (b + 3))"},
		{two(two(a, 21, b), 19, two(a, 20, not(b))), "((a OR b) AND (a XOR (NOT b)))"},
		{two(index("l", a), 11, field("t", "ET")), "(l[a] / t.ET)"},
	} {
		tryLines(t, "a := "+c.want+";\n", assign(name("a"), c.x))
		tryLines(t, "l["+c.want+"] := a;\n", assign(index("l", c.x), a))
		tryLines(t, "IF "+c.want+" THEN\nELSIF "+c.want+" THEN\nEND_IF;\n", choice(list(c.x, c.x), nil, nil))
		tryLines(t, "CASE "+c.want+" OF\nEND_CASE;\n", cases(c.x, nil))
		tryLines(t, "FOR i := "+c.want+" TO "+c.want+" BY "+c.want+" DO\nEND_FOR;\n", count("i", c.x, c.x, c.x))
		tryLines(t, "WHILE "+c.want+" DO\nEND_WHILE;\n", while(c.x))
		tryLines(t, "REPEAT\nUNTIL "+c.want+" END_REPEAT;\n", repeat(c.x))
		tryLines(t, "t(x := "+c.want+", y := "+c.want+");\n", call("t", []string{"x", "y"}, c.x, c.x))
	}
}

// P19.1: each operation within each, on either side.
func TestOperationsInOperations(t *testing.T) {
	signs := []string{8: "+", "-", "*", "/", "MOD", "=", "<>", "<", ">", "<=", ">=", "AND", "XOR", "OR"}
	a, b, c := name("a"), num(2), field("c", "d")
	for i := 8; i < 22; i++ {
		for j := 8; j < 22; j++ {
			tryLines(t, "a := ((a "+signs[i]+" 2) "+signs[j]+" c.d);\n", assign(a, two(two(a, i, b), j, c)))
			tryLines(t, "a := (a "+signs[i]+" (2 "+signs[j]+" c.d));\n", assign(a, two(a, i, two(b, j, c))))
		}
		tryLines(t, "a := (-(a "+signs[i]+" (-2)));\n", assign(a, neg(two(a, i, neg(b)))))
		tryLines(t, "a := (NOT ((NOT a) "+signs[i]+" 2));\n", assign(a, not(two(not(a), i, b))))
	}
}

// P19.1: assignments, calls, EXIT and RETURN.
func TestLines(t *testing.T) {
	tryLines(t, "a := 1;\n", assign(name("a"), num(1)))
	tryLines(t, "l[1] := l[2];\n", assign(index("l", num(1)), index("l", num(2))))
	tryLines(t, "EXIT;\n", exit())
	tryLines(t, "RETURN;\n", giveBack())
	tryLines(t, "t();\n", call("t", nil))
	tryLines(t, "t();\n", call("t", []string{}, []api.Expr{}...))
	tryLines(t, "t(IN := a);\n", call("t", []string{"IN"}, name("a")))
	tryLines(t, "t(IN := (NOT a), PT := (-5), IN := l[1]);\n", call("t", []string{"IN", "PT", "IN"}, not(name("a")), neg(num(5)), index("l", num(1))))
	tryLines(t, "RETURN;\nEXIT;\nt();\na := b.c;\nRETURN;\n", giveBack(), exit(), call("t", nil), assign(name("a"), field("b", "c")), giveBack())
}

// P19.1: statements that choose, empty and not, with ELSIF and ELSE and without.
func TestChoices(t *testing.T) {
	a, b, c := name("a"), name("b"), name("c")
	x, r := body(exit()), body(giveBack(), exit())
	tryLines(t, "IF a THEN\nEND_IF;\n", choice(list(a), nil))
	tryLines(t, "IF a THEN\nEXIT;\nEND_IF;\n", choice(list(a), x))
	tryLines(t, "IF a THEN\nELSE\nEND_IF;\n", choice(list(a), nil, []api.Stmt{}))
	tryLines(t, "IF a THEN\nRETURN;\nEXIT;\nELSE\nEXIT;\nEND_IF;\n", choice(list(a), r, x))
	tryLines(t, "IF a THEN\nELSIF b THEN\nEND_IF;\n", choice(list(a, b), nil, nil))
	tryLines(t, "IF a THEN\nEXIT;\nELSIF b THEN\nRETURN;\nEXIT;\nEND_IF;\n", choice(list(a, b), x, r))
	tryLines(t, "IF a THEN\nELSIF b THEN\nELSE\nEND_IF;\n", choice(list(a, b), nil, nil, nil))
	tryLines(t, "IF a THEN\nELSIF b THEN\nEXIT;\nELSIF c THEN\nRETURN;\nEXIT;\nELSE\nEXIT;\nEND_IF;\n", choice(list(a, b, c), nil, x, r, x))
	tryLines(t, "IF a THEN\nELSIF b THEN\nEXIT;\nELSIF c THEN\nEND_IF;\n", choice(list(a, b, c), nil, x, nil))
}

// P19.1: labels of one number and of two, one row a block, with ELSE and without.
func TestCases(t *testing.T) {
	a := name("a")
	x := body(exit())
	tryLines(t, "CASE a OF\nEND_CASE;\n", cases(a, nil))
	tryLines(t, "CASE a OF\nELSE\nEND_CASE;\n", cases(a, [][]int64{}, nil))
	tryLines(t, "CASE a OF\nELSE\nEXIT;\nEND_CASE;\n", cases(a, nil, x))
	tryLines(t, "CASE a OF\n1:\nEND_CASE;\n", cases(a, [][]int64{{1, 1}}, nil))
	tryLines(t, "CASE a OF\n-1:\nEXIT;\nELSE\nEND_CASE;\n", cases(a, [][]int64{{-1, -1}}, x, nil))
	tryLines(t, "CASE a OF\n1, 3..5, -7..-6, -1..1:\n0:\nEXIT;\n2..2000:\nELSE\nEXIT;\nEND_CASE;\n",
		cases(a, [][]int64{{1, 1, 3, 5, -7, -6, -1, 1}, {0, 0}, {2, 2000}}, nil, x, nil, x))
	tryLines(t, "CASE a OF\n5..3:\n5, 5:\nEXIT;\nEND_CASE;\n", cases(a, [][]int64{{5, 3}, {5, 5, 5, 5}}, nil, x))
	tryLines(t, "CASE a OF\n-9223372036854775807..9223372036854775807:\n9223372036854775807, -9223372036854775807:\nEND_CASE;\n",
		cases(a, [][]int64{{math.MinInt64 + 1, math.MaxInt64}, {math.MaxInt64, math.MaxInt64, math.MinInt64 + 1, math.MinInt64 + 1}}, nil, nil))
	tryLines(t, "CASE a OF\n-3, 0:\nEND_CASE;\n", cases(a, [][]int64{{-3, -3, 0, 0}}, nil))
}

// P19.1: statements that do others again, empty and not.
func TestLoops(t *testing.T) {
	a, i := name("a"), "i"
	tryLines(t, "FOR i := 1 TO 3 BY 1 DO\nEND_FOR;\n", count(i, num(1), num(3), num(1)))
	tryLines(t, "FOR i := a TO (-3) BY (-1) DO\nEXIT;\nRETURN;\nEND_FOR;\n", count(i, a, neg(num(3)), neg(num(1)), exit(), giveBack()))
	tryLines(t, "WHILE a DO\nEND_WHILE;\n", while(a))
	tryLines(t, "WHILE (NOT a) DO\nEXIT;\nRETURN;\nEND_WHILE;\n", while(not(a), exit(), giveBack()))
	tryLines(t, "REPEAT\nUNTIL a END_REPEAT;\n", repeat(a))
	tryLines(t, "REPEAT\nEXIT;\nRETURN;\nUNTIL (a > 3) END_REPEAT;\n", repeat(two(a, 16, num(3)), exit(), giveBack()))
}

// wrap is a kind of statement around others: what stands ahead of them and behind them.
type wrap struct {
	build         func([]api.Stmt) api.Stmt
	ahead, behind string
}

func wraps() []wrap {
	a := name("a")
	return []wrap{
		{func(b []api.Stmt) api.Stmt { return choice(list(a), b) }, "IF a THEN\n", "END_IF;\n"},
		{func(b []api.Stmt) api.Stmt { return choice(list(a, a), nil, b) }, "IF a THEN\nELSIF a THEN\n", "END_IF;\n"},
		{func(b []api.Stmt) api.Stmt { return choice(list(a), nil, b) }, "IF a THEN\nELSE\n", "END_IF;\n"},
		{func(b []api.Stmt) api.Stmt { return cases(a, [][]int64{{-1, 1}}, b) }, "CASE a OF\n-1..1:\n", "END_CASE;\n"},
		{func(b []api.Stmt) api.Stmt { return cases(a, [][]int64{{1, 1}, {2, 2}}, b, nil) }, "CASE a OF\n1:\n", "2:\nEND_CASE;\n"},
		{func(b []api.Stmt) api.Stmt { return cases(a, nil, b) }, "CASE a OF\nELSE\n", "END_CASE;\n"},
		{func(b []api.Stmt) api.Stmt { return count("i", a, a, a, b...) }, "FOR i := a TO a BY a DO\n", "END_FOR;\n"},
		{func(b []api.Stmt) api.Stmt { return while(a, b...) }, "WHILE a DO\n", "END_WHILE;\n"},
		{func(b []api.Stmt) api.Stmt { return repeat(a, b...) }, "REPEAT\n", "UNTIL a END_REPEAT;\n"},
	}
}

// P19.1: statements within one another, three deep: no line stands further in.
func TestStatementsInStatements(t *testing.T) {
	for _, x := range wraps() {
		for _, y := range wraps() {
			tryLines(t, x.ahead+y.ahead+y.behind+"EXIT;\n"+x.behind, x.build(body(y.build(nil), exit())))
			for _, z := range wraps() {
				inner := z.build(body(call("t", nil), exit()))
				want := x.ahead + y.ahead + z.ahead + "t();\nEXIT;\n" + z.behind + y.behind + z.ahead + "t();\nEXIT;\n" + z.behind + x.behind
				tryLines(t, want, x.build(body(y.build(body(inner)), inner)))
			}
		}
	}
}

// P19.1: lines don't matter, wherever they are.
func TestLinesDoNotMatter(t *testing.T) {
	at := api.Expr{Op: 3, Name: "a", Line: -5}
	p := api.Program{Name: "p", Vars: []api.Var{{Name: "a", Type: 1, Line: 9}}, Body: []api.Stmt{
		{Op: 7, Line: 8, To: api.Expr{Line: 1}, Val: api.Expr{Line: math.MinInt}},
		{Op: 1, Line: math.MaxInt, To: at, Val: api.Expr{Op: 6, Sub: []api.Expr{at}, Line: 3}},
		{Op: 9, Name: "t", To: api.Expr{Line: 4, Sub: []api.Expr{}}},
	}}
	tryText(t, p, "PROGRAM p\nVAR\na : INT := 0;\nEND_VAR\nEXIT;\na := (-a);\nt();\nEND_PROGRAM\n")
}

// P19.1: the document's program, read and shown.
func TestDocumentsProgram(t *testing.T) {
	p, e, _ := tree.Parse("PROGRAM p VAR w : MC_Power; m : MC_MoveRelative; END_VAR w(Axis := 0, Enable := TRUE); m(Axis := 0, Execute := w.Status, Distance := 20, Velocity := 5); END_PROGRAM")
	if e != 0 {
		t.Fatal(e)
	}
	tryText(t, p, "PROGRAM p\nVAR\nw : MC_Power;\nEND_VAR\nVAR\nm : MC_MoveRelative;\nEND_VAR\nw(Axis := 0, Enable := TRUE);\nm(Axis := 0, Execute := w.Status, Distance := 20, Velocity := 5);\nEND_PROGRAM\n")
}
