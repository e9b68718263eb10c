package tree

import (
	"strconv"
	"strings"
	"testing"

	"servitor/api"
)

// opName of an expression, by the document's numbers.
func opName(op int) string {
	names := strings.Fields("? num bool var index field neg not + - * / MOD = <> < > <= >= AND XOR OR")
	if op < 1 || op >= len(names) {
		return "op" + strconv.Itoa(op)
	}
	return names[op]
}

// shower of trees as texts, with lines or without.
type shower struct{ lines bool }

func (s shower) at(line int) string {
	if !s.lines {
		return ""
	}
	return "@" + strconv.Itoa(line)
}

// expr as a text: operations with their sign ahead, in parentheses.
func (s shower) expr(x api.Expr) string {
	at := s.at(x.Line)
	var subs []string
	for _, sub := range x.Sub {
		subs = append(subs, s.expr(sub))
	}
	inner := strings.Join(subs, " ")
	switch name := opName(x.Op); name {
	case "num":
		return strconv.FormatInt(x.N, 10) + at
	case "bool":
		return "T" + strconv.FormatInt(x.N, 10) + at
	case "var":
		return x.Name + at
	case "index":
		return x.Name + at + "[" + inner + "]"
	case "field":
		return x.Name + "." + x.Field + at
	default:
		return "(" + name + at + " " + inner + ")"
	}
}

func (s shower) exprs(list []api.Expr) string {
	var parts []string
	for _, x := range list {
		parts = append(parts, s.expr(x))
	}
	return strings.Join(parts, ", ")
}

func (s shower) block(body []api.Stmt) string {
	var parts []string
	for _, st := range body {
		parts = append(parts, s.stmt(st))
	}
	return "{" + strings.Join(parts, "; ") + "}"
}

func (s shower) blocks(list [][]api.Stmt) string {
	text := ""
	for _, b := range list {
		text += " " + s.block(b)
	}
	return text
}

func (s shower) labels(list [][]int64) string {
	text := ""
	for _, row := range list {
		text += " <"
		for i, n := range row {
			if i > 0 {
				text += " "
			}
			text += strconv.FormatInt(n, 10)
		}
		text += ">"
	}
	return text
}

// stmt as a text: what it is, its line, and its parts in the order of api.
func (s shower) stmt(st api.Stmt) string {
	at := s.at(st.Line)
	switch st.Op {
	case 1:
		return "assign" + at + " " + s.expr(st.To) + " " + s.expr(st.Val)
	case 2:
		return "if" + at + " " + s.exprs(st.Conds) + s.blocks(st.Blocks)
	case 3:
		return "case" + at + " " + s.expr(st.Val) + s.labels(st.Labels) + s.blocks(st.Blocks)
	case 4:
		return "for" + at + " " + st.Name + " " + s.exprs(st.Conds) + s.blocks(st.Blocks)
	case 5:
		return "while" + at + " " + s.expr(st.Val) + s.blocks(st.Blocks)
	case 6:
		return "repeat" + at + " " + s.expr(st.Val) + s.blocks(st.Blocks)
	case 7:
		return "exit" + at
	case 8:
		return "return" + at
	case 9:
		return "call" + at + " " + st.Name + "(" + strings.Join(st.Fields, ", ") + ": " + s.exprs(st.Conds) + ")"
	}
	return "stmt" + strconv.Itoa(st.Op)
}

// variable as a text: its section and type are the document's numbers.
func (s shower) variable(v api.Var) string {
	text := v.Name + s.at(v.Line) + " " + strconv.Itoa(v.Section) + ":" + strconv.Itoa(v.Type)
	if v.Array || v.Lo != 0 || v.Hi != 0 {
		text += "[" + strconv.FormatBool(v.Array) + " " + strconv.FormatInt(v.Lo, 10) + " " + strconv.FormatInt(v.Hi, 10) + "]"
	}
	return text + "=" + strconv.FormatInt(v.Init, 10)
}

func (s shower) program(p api.Program) string {
	var vars []string
	for _, v := range p.Vars {
		vars = append(vars, s.variable(v))
	}
	return p.Name + " (" + strings.Join(vars, ", ") + ") " + s.block(p.Body)
}

// only what its kind gives is in an expression.
func onlyExpr(x api.Expr) bool {
	least := api.Expr{Op: x.Op, Line: x.Line}
	many := 0
	switch opName(x.Op) {
	case "num", "bool":
		least.N = x.N
	case "var":
		least.Name = x.Name
	case "index":
		least.Name = x.Name
		many = 1
	case "field":
		least.Name, least.Field = x.Name, x.Field
	case "neg", "not":
		many = 1
	default:
		many = 2
	}
	for _, sub := range x.Sub {
		if !onlyExpr(sub) {
			return false
		}
	}
	return x.N == least.N && x.Name == least.Name && x.Field == least.Field && len(x.Sub) == many && x.Line > 0
}

// isNothing: an expression that isn't there.
func isNothing(x api.Expr) bool {
	return x.Op == 0 && x.N == 0 && x.Name == "" && x.Field == "" && len(x.Sub) == 0 && x.Line == 0
}

// partsOf a statement that its kind gives: t To, v Val, n Name, c Conds, l Labels, f Fields, b Blocks.
func partsOf(op int) string {
	return []string{"", "tv", "cb", "vlb", "ncb", "vb", "vb", "", "", "ncf"}[op]
}

// only what its kind gives is in a statement.
func onlyStmt(st api.Stmt) bool {
	if st.Op < 1 || st.Op > 9 || st.Line < 1 {
		return false
	}
	parts := partsOf(st.Op)
	for _, c := range []struct {
		part  string
		there bool
	}{
		{"t", !isNothing(st.To)}, {"v", !isNothing(st.Val)}, {"n", st.Name != ""}, {"c", len(st.Conds) > 0}, {"l", len(st.Labels) > 0}, {"f", len(st.Fields) > 0}, {"b", len(st.Blocks) > 0},
	} {
		if c.there && !strings.Contains(parts, c.part) {
			return false
		}
		if !c.there && strings.Contains("tvn", c.part) && strings.Contains(parts, c.part) {
			return false
		}
	}
	fine := (isNothing(st.To) || onlyExpr(st.To)) && (isNothing(st.Val) || onlyExpr(st.Val))
	for _, x := range st.Conds {
		fine = fine && onlyExpr(x)
	}
	for _, b := range st.Blocks {
		fine = fine && onlyBlock(b)
	}
	return fine
}

func onlyBlock(body []api.Stmt) bool {
	for _, st := range body {
		if !onlyStmt(st) {
			return false
		}
	}
	return true
}

// isNone: a program that isn't there.
func isNone(p api.Program) bool { return p.Name == "" && len(p.Vars) == 0 && len(p.Body) == 0 }

// parsed is the program of a text that is one; all else in it is 0, empty, false.
func parsed(t *testing.T, text string) api.Program {
	t.Helper()
	p, e, at := Parse(text)
	if e != 0 || at != (api.Tok{}) {
		t.Fatalf("Parse(%s): %d at %v", short(text), e, at)
	}
	if !onlyBlock(p.Body) {
		t.Errorf("Parse(%s): more, or less, than a kind gives: %v", short(text), p)
	}
	return p
}

// short is a text as a message tells it.
func short(text string) string {
	if len(text) > 300 {
		return strconv.Quote(text[:300]) + ".. of " + strconv.Itoa(len(text)) + " bytes"
	}
	return strconv.Quote(text)
}

// tryTree of a text, without lines.
func tryTree(t *testing.T, text, want string) {
	t.Helper()
	if got := (shower{}).program(parsed(t, text)); got != want {
		t.Errorf("Parse(%s):\n%s, not\n%s", short(text), got, want)
	}
}

// tryLines of a text: its tree with them.
func tryLines(t *testing.T, text, want string) {
	t.Helper()
	if got := (shower{lines: true}).program(parsed(t, text)); got != want {
		t.Errorf("Parse(%s):\n%s, not\n%s", short(text), got, want)
	}
}

// tryFails: there is this error at this place, and nothing else.
func tryFails(t *testing.T, text string, want api.Errno, line, col int) {
	t.Helper()
	p, e, at := Parse(text)
	if !isNone(p) || e != want || at != (api.Tok{Line: line, Col: col}) {
		t.Errorf("Parse(%s): %v; %d at %v; not %d at %d:%d", short(text), p, e, at, want, line, col)
	}
}

// tryError of a text in which a @ (which isn't part of it) stands ahead of the sign that is told.
func tryError(t *testing.T, marked string, want api.Errno) {
	t.Helper()
	ahead, behind, found := strings.Cut(marked, "@")
	if !found {
		t.Fatalf("no @: %s", short(marked))
	}
	line := 1 + strings.Count(ahead, "\n")
	tryFails(t, ahead+behind, want, line, len(ahead)-strings.LastIndex(ahead, "\n"))
}

// wrapped is a program of these sections and statements.
func wrapped(inner string) string { return "PROGRAM p " + inner + " END_PROGRAM" }
