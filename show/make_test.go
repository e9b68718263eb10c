package show

import (
	"strconv"
	"strings"
	"testing"

	"servitor/api"
	"servitor/tree"
)

// Trees as the tests write them; what is a number here is the document's.

func num(n int64) api.Expr { return api.Expr{Op: 1, N: n} }

func yes() api.Expr { return api.Expr{Op: 2, N: 1} }

func no() api.Expr { return api.Expr{Op: 2} }

func name(n string) api.Expr { return api.Expr{Op: 3, Name: n} }

func index(n string, x api.Expr) api.Expr { return api.Expr{Op: 4, Name: n, Sub: []api.Expr{x}} }

func field(n, f string) api.Expr { return api.Expr{Op: 5, Name: n, Field: f} }

func neg(x api.Expr) api.Expr { return api.Expr{Op: 6, Sub: []api.Expr{x}} }

func not(x api.Expr) api.Expr { return api.Expr{Op: 7, Sub: []api.Expr{x}} }

func two(x api.Expr, op int, y api.Expr) api.Expr { return api.Expr{Op: op, Sub: []api.Expr{x, y}} }

func assign(to, val api.Expr) api.Stmt { return api.Stmt{Op: 1, To: to, Val: val} }

func choice(conds []api.Expr, blocks ...[]api.Stmt) api.Stmt {
	return api.Stmt{Op: 2, Conds: conds, Blocks: blocks}
}

func cases(val api.Expr, labels [][]int64, blocks ...[]api.Stmt) api.Stmt {
	return api.Stmt{Op: 3, Val: val, Labels: labels, Blocks: blocks}
}

func count(n string, from, to, by api.Expr, body ...api.Stmt) api.Stmt {
	return api.Stmt{Op: 4, Name: n, Conds: []api.Expr{from, to, by}, Blocks: [][]api.Stmt{body}}
}

func while(val api.Expr, body ...api.Stmt) api.Stmt {
	return api.Stmt{Op: 5, Val: val, Blocks: [][]api.Stmt{body}}
}

func repeat(val api.Expr, body ...api.Stmt) api.Stmt {
	return api.Stmt{Op: 6, Val: val, Blocks: [][]api.Stmt{body}}
}

func exit() api.Stmt { return api.Stmt{Op: 7} }

func giveBack() api.Stmt { return api.Stmt{Op: 8} }

func call(n string, fields []string, conds ...api.Expr) api.Stmt {
	return api.Stmt{Op: 9, Name: n, Fields: fields, Conds: conds}
}

func list(xs ...api.Expr) []api.Expr { return xs }

func body(ss ...api.Stmt) []api.Stmt { return ss }

// of these statements is this program.
func of(ss ...api.Stmt) api.Program { return api.Program{Name: "p", Body: ss} }

// having these variables is this program.
func having(vs ...api.Var) api.Program { return api.Program{Name: "p", Vars: vs} }

// signs of a line that belong together: what the chapter puts blanks between, and what it doesn't.
type row []string

// text of a line by the chapter's words: one blank between signs, none ahead of and behind some.
func (r row) text() string {
	var text strings.Builder
	for i, sign := range r {
		ahead := strings.Contains(" ; , ) ] [ . : .. ", " "+sign+" ")
		if i > 0 && !ahead && !strings.HasSuffix(r[i-1], "(") && !strings.Contains(" (- [ . .. ", " "+r[i-1]+" ") {
			text.WriteString(" ")
		}
		text.WriteString(sign)
	}
	return text.String() + "\n"
}

func itoa(n int64) string { return strconv.FormatInt(n, 10) }

// exprRow is an expression's signs. Of what is none there is a sign that no text has.
func exprRow(x api.Expr) row {
	sub := func(i int) row {
		if i >= len(x.Sub) {
			return row{"?"}
		}
		return exprRow(x.Sub[i])
	}
	switch x.Op {
	case 1:
		return row{itoa(x.N)}
	case 2:
		if x.N == 1 {
			return row{"TRUE"}
		}
		return row{"FALSE"}
	case 3:
		return row{x.Name}
	case 4:
		return append(append(row{x.Name, "["}, sub(0)...), "]")
	case 5:
		return row{x.Name, ".", x.Field}
	case 6:
		return append(append(row{"(-"}, sub(0)...), ")")
	case 7:
		return append(append(row{"(", "NOT"}, sub(0)...), ")")
	}
	sign := "?"
	if x.Op >= 8 && x.Op <= 21 {
		sign = strings.Fields("+ - * / MOD = <> < > <= >= AND XOR OR")[x.Op-8]
	}
	return append(append(append(append(row{"("}, sub(0)...), sign), sub(1)...), ")")
}

// mix of signs, and expressions' signs.
func mix(parts ...any) row {
	var r row
	for _, p := range parts {
		switch p := p.(type) {
		case string:
			r = append(r, p)
		case row:
			r = append(r, p...)
		case api.Expr:
			r = append(r, exprRow(p)...)
		}
	}
	return r
}

func labelRow(bounds []int64) row {
	var r row
	for i := 0; i < len(bounds); i += 2 {
		if i > 0 {
			r = append(r, ",")
		}
		r = append(r, itoa(bounds[i]))
		if i+1 == len(bounds) {
			r = append(r, "?")
		} else if bounds[i+1] != bounds[i] {
			r = append(r, "..", itoa(bounds[i+1]))
		}
	}
	return append(r, ":")
}

func bodyRows(ss []api.Stmt) []row {
	var rows []row
	for _, s := range ss {
		rows = append(rows, stmtRows(s)...)
	}
	return rows
}

// blocksRows are those of some blocks, each behind its row.
func blocksRows(heads []row, blocks [][]api.Stmt) []row {
	var rows []row
	for i, b := range blocks {
		if i < len(heads) {
			rows = append(rows, heads[i])
		} else {
			rows = append(rows, row{"ELSE"})
		}
		rows = append(rows, bodyRows(b)...)
	}
	for i := len(blocks); i < len(heads); i++ {
		rows = append(rows, heads[i])
	}
	return rows
}

// stmtRows of a statement, also of one that is none: no text of theirs is read as it.
func stmtRows(s api.Stmt) []row {
	var heads []row
	var inputs row
	for i, x := range s.Conds {
		word := "IF"
		if i > 0 {
			word = "ELSIF"
			inputs = append(inputs, ",")
		}
		heads = append(heads, mix(word, x, "THEN"))
		if i < len(s.Fields) {
			inputs = append(inputs, s.Fields[i])
		}
		inputs = append(inputs, mix(":=", x)...)
	}
	conds := append(append([]api.Expr{}, s.Conds...), api.Expr{}, api.Expr{}, api.Expr{})
	inner := func() []row {
		if len(s.Blocks) == 0 {
			return nil
		}
		return bodyRows(s.Blocks[0])
	}
	switch s.Op {
	case 1:
		return []row{mix(s.To, ":=", s.Val, ";")}
	case 2:
		return append(blocksRows(heads, s.Blocks), row{"END_IF", ";"})
	case 3:
		heads = nil
		for _, bounds := range s.Labels {
			heads = append(heads, labelRow(bounds))
		}
		return append(append([]row{mix("CASE", s.Val, "OF")}, blocksRows(heads, s.Blocks)...), row{"END_CASE", ";"})
	case 4:
		first := mix("FOR", s.Name, ":=", conds[0], "TO", conds[1], "BY", conds[2], "DO")
		return append(append([]row{first}, inner()...), row{"END_FOR", ";"})
	case 5:
		return append(append([]row{mix("WHILE", s.Val, "DO")}, inner()...), row{"END_WHILE", ";"})
	case 6:
		return append(append([]row{{"REPEAT"}}, inner()...), mix("UNTIL", s.Val, "END_REPEAT", ";"))
	case 7:
		return []row{{"EXIT", ";"}}
	case 8:
		return []row{{"RETURN", ";"}}
	case 9:
		return []row{mix(s.Name+"(", inputs, ")", ";")}
	}
	return []row{{"?"}}
}

// blockName by the document's number.
func blockName(kind int) string {
	names := strings.Fields("TON TOF TP CTU CTD R_TRIG F_TRIG SR RS ? MC_Power MC_Home MC_Stop MC_Halt MC_MoveAbsolute MC_MoveRelative MC_MoveAdditive MC_MoveVelocity MC_GearIn MC_Reset MC_SetPosition MC_SetOverride")
	if kind < 10 || kind-10 >= len(names) {
		return "?"
	}
	return names[kind-10]
}

func varText(v api.Var) string {
	words := []string{"VAR", "VAR_INPUT", "VAR_OUTPUT"}
	text := "?\n"
	if v.Section >= 0 && v.Section < len(words) {
		text = words[v.Section] + "\n"
	}
	text += v.Name + " : "
	if v.Array {
		text += "ARRAY[" + itoa(v.Lo) + ".." + itoa(v.Hi) + "] OF "
	}
	switch {
	case v.Type == 1 && v.Array:
		text += "INT"
	case v.Type == 2 && v.Array:
		text += "BOOL"
	case v.Type == 1:
		text += "INT := " + itoa(v.Init)
	case v.Type == 2 && v.Init == 1:
		text += "BOOL := TRUE"
	case v.Type == 2:
		text += "BOOL := FALSE"
	default:
		text += blockName(v.Type)
	}
	return text + ";\nEND_VAR\n"
}

// textOf a program by the chapter's words; of what is none it is a text that isn't read as it.
func textOf(p api.Program) string {
	var text strings.Builder
	text.WriteString("PROGRAM " + p.Name + "\n")
	for _, v := range p.Vars {
		text.WriteString(varText(v))
	}
	for _, r := range bodyRows(p.Body) {
		text.WriteString(r.text())
	}
	return text.String() + "END_PROGRAM\n"
}

// isProgram: could tree.Parse make it? It could, if it makes it of its text (of one that isn't too long, nor too deep).
func isProgram(p api.Program) bool {
	q, e, _ := tree.Parse(textOf(p))
	return e == 0 && tree.Same(p, q)
}

// short is a text as a message tells it.
func short(text string) string {
	if len(text) > 1000 {
		return text[:1000] + ".. of " + strconv.Itoa(len(text)) + " bytes"
	}
	return text
}

// tryText of a program: it is this one, and it is read as the same program.
func tryText(t *testing.T, p api.Program, want string) {
	t.Helper()
	got, e := Show(p)
	if e != 0 || got != want {
		t.Errorf("%v: %d,\n%s, not\n%s", p, e, short(got), short(want))
		return
	}
	tryRead(t, p, got)
}

// tryRead: the text that was shown is read as the same program.
func tryRead(t *testing.T, p api.Program, text string) {
	t.Helper()
	if q, e, at := tree.Parse(text); e != 0 || !tree.Same(p, q) {
		t.Errorf("read of\n%s: %d at %v: %v, not %v", short(text), e, at, q, p)
	}
}

// tryFails: there is this error, and no text.
func tryFails(t *testing.T, what string, p api.Program, want api.Errno) {
	t.Helper()
	if got, e := Show(p); got != "" || e != want {
		t.Errorf("%s: %v: %d, %s, not %d", what, p, e, short(got), want)
	}
}

// tryForm of a program: it is shown just if it is one, and then as the chapter says.
func tryForm(t *testing.T, what string, p api.Program) bool {
	t.Helper()
	if !isProgram(p) {
		tryFails(t, what, p, 5)
		return false
	}
	want := textOf(p)
	if got, e := Show(p); e != 0 || got != want {
		t.Errorf("%s: %v: %d,\n%s, not\n%s", what, p, e, short(got), short(want))
	}
	return true
}
