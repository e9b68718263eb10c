package tree

import (
	"slices"
	"strconv"
	"strings"
	"testing"

	"servitor/api"
)

// writer draws programs: it writes their texts sign by sign, and keeps the trees that should come of them.
type writer struct {
	x    uint64
	text strings.Builder
	line int
	deep int // how many parts it is within
	left int // so many signs it may still write, about
	most int // how deep was written
}

// draw a number from 0 up to one less than this.
func (w *writer) draw(many int) int {
	w.x = w.x*6364136223846793005 + 1442695040888963407
	return int(w.x >> 33 % uint64(many))
}

// one of these.
func (w *writer) one(of ...string) string { return of[w.draw(len(of))] }

// sign behind a gap; its line.
func (w *writer) sign(text string) int {
	gap := w.one(" ", " ", " ", " ", "\n", "\t", "\n\n  ", " // a; b :=\n", "(* x\n\n y *)", " (**) ")
	w.text.WriteString(gap + text)
	w.line += strings.Count(gap, "\n")
	w.left--
	return w.line
}

func (w *writer) signs(texts ...string) {
	for _, text := range texts {
		w.sign(text)
	}
}

// name as a sign.
func (w *writer) name() (string, int) {
	name := w.one("a", "b", "x1", "TON", "Q", "end_if", "a_name_of_16_ok_", "Program")
	return name, w.sign(name)
}

// number as a sign.
func (w *writer) number() (int64, int) {
	texts := []string{"0", "1", "07", "255", "2#101", "8#17", "16#FF", "9223372036854775807"}
	values := []int64{0, 1, 7, 255, 5, 15, 255, 9223372036854775807}
	at := w.draw(len(texts))
	return values[at], w.sign(texts[at])
}

// within a part that counts, if there is room for one; false: there is none.
func (w *writer) within(do func()) bool {
	if w.deep >= 32 || w.left < 0 {
		return false
	}
	w.deep++
	w.most = max(w.most, w.deep)
	do()
	w.deep--
	return true
}

// expr of a level.
func (w *writer) expr(level int) api.Expr {
	if level == len(levels()) {
		return w.unary()
	}
	left := w.expr(level + 1)
	for w.left > 0 && w.draw(7) == 0 {
		sign := w.one(levels()[level]...)
		op := slices.Index(strings.Fields("+ - * / MOD = <> < > <= >= AND XOR OR"), sign) + 8
		line := w.sign(sign)
		left = api.Expr{Op: op, Sub: []api.Expr{left, w.expr(level + 1)}, Line: line}
		if level == 3 {
			break
		}
	}
	return left
}

func (w *writer) unary() api.Expr {
	x := api.Expr{}
	op := 6 + w.draw(2)
	if w.draw(4) == 0 && w.within(func() {
		x.Line = w.sign([]string{"-", "NOT"}[op-6])
		x.Sub = []api.Expr{w.unary()}
	}) {
		x.Op = op
		return x
	}
	return w.factor()
}

func (w *writer) factor() api.Expr {
	var x api.Expr
	switch w.draw(7) {
	case 0:
		x.Op = 1
		x.N, x.Line = w.number()
		return x
	case 1:
		n := w.draw(2)
		return api.Expr{Op: 2, N: int64(n), Line: w.sign([]string{"FALSE", "TRUE"}[n])}
	case 2, 3:
		if w.within(func() {
			w.sign("(")
			x = w.expr(0)
			w.sign(")")
		}) {
			return x
		}
	case 4:
		x.Op = 5
		x.Name, x.Line = w.name()
		w.sign(".")
		x.Field, _ = w.name()
		return x
	}
	return w.place()
}

// place: a name, or one with an index.
func (w *writer) place() api.Expr {
	x := api.Expr{Op: 3}
	x.Name, x.Line = w.name()
	if w.draw(3) == 0 && w.within(func() {
		w.sign("[")
		x.Sub = []api.Expr{w.expr(0)}
		w.sign("]")
	}) {
		x.Op = 4
	}
	return x
}

// block of statements.
func (w *writer) block() []api.Stmt {
	var list []api.Stmt
	for w.draw(4) != 0 && w.within(func() {
		s := w.stmt()
		w.sign(";")
		list = append(list, s)
	}) {
	}
	return list
}

func (w *writer) stmt() api.Stmt {
	s := api.Stmt{Op: 1 + w.draw(9)}
	switch s.Op {
	case 1:
		s.To = w.place()
		s.Line = s.To.Line
		w.sign(":=")
		s.Val = w.expr(0)
	case 2:
		w.choice(&s)
	case 3:
		w.cases(&s)
	case 4:
		w.count(&s)
	case 5:
		s.Line = w.sign("WHILE")
		s.Val = w.expr(0)
		w.sign("DO")
		s.Blocks = append(s.Blocks, w.block())
		w.sign("END_WHILE")
	case 6:
		s.Line = w.sign("REPEAT")
		s.Blocks = append(s.Blocks, w.block())
		w.sign("UNTIL")
		s.Val = w.expr(0)
		w.sign("END_REPEAT")
	case 7:
		s.Line = w.sign("EXIT")
	case 8:
		s.Line = w.sign("RETURN")
	case 9:
		w.call(&s)
	}
	return s
}

func (w *writer) choice(s *api.Stmt) {
	s.Line = w.sign("IF")
	for more := true; more; {
		s.Conds = append(s.Conds, w.expr(0))
		w.sign("THEN")
		s.Blocks = append(s.Blocks, w.block())
		if more = w.draw(3) == 0; more {
			w.sign("ELSIF")
		}
	}
	if w.draw(2) == 0 {
		w.sign("ELSE")
		s.Blocks = append(s.Blocks, w.block())
	}
	w.sign("END_IF")
}

// signed number.
func (w *writer) signed() int64 {
	minus := w.draw(3) == 0
	if minus {
		w.sign("-")
	}
	n, _ := w.number()
	if minus {
		return -n
	}
	return n
}

func (w *writer) cases(s *api.Stmt) {
	s.Line = w.sign("CASE")
	s.Val = w.expr(0)
	w.sign("OF")
	for w.draw(3) != 0 {
		var row []int64
		for more := true; more; {
			n := w.signed()
			m := n
			if w.draw(3) == 0 {
				w.sign("..")
				m = w.signed()
			}
			row = append(row, n, m)
			if more = w.draw(3) == 0; more {
				w.sign(",")
			}
		}
		w.sign(":")
		s.Labels = append(s.Labels, row)
		s.Blocks = append(s.Blocks, w.block())
	}
	if w.draw(2) == 0 {
		w.sign("ELSE")
		s.Blocks = append(s.Blocks, w.block())
	}
	w.sign("END_CASE")
}

func (w *writer) count(s *api.Stmt) {
	s.Line = w.sign("FOR")
	s.Name, _ = w.name()
	w.sign(":=")
	from := w.expr(0)
	w.sign("TO")
	to := w.expr(0)
	by := api.Expr{Op: 1, N: 1}
	if w.draw(2) == 0 {
		w.sign("BY")
		by = w.expr(0)
		w.sign("DO")
	} else {
		by.Line = w.sign("DO")
	}
	s.Conds = []api.Expr{from, to, by}
	s.Blocks = [][]api.Stmt{w.block()}
	w.sign("END_FOR")
}

func (w *writer) call(s *api.Stmt) {
	s.Name, s.Line = w.name()
	w.sign("(")
	for more := w.draw(4) != 0; more; {
		field, _ := w.name()
		s.Fields = append(s.Fields, field)
		w.sign(":=")
		s.Conds = append(s.Conds, w.expr(0))
		if more = w.draw(2) == 0; more {
			w.sign(",")
		}
	}
	w.sign(")")
}

// typed is what variables have by a drawn type.
func (w *writer) typed() api.Var {
	plain := 1 + w.draw(2)
	switch w.draw(3) {
	case 0:
		hi := w.draw(256)
		lo := w.draw(hi + 1)
		w.signs("ARRAY", "[", strconv.Itoa(lo), "..", strconv.Itoa(hi), "]", "OF", []string{"", "INT", "BOOL"}[plain])
		return api.Var{Type: plain, Array: true, Lo: int64(lo), Hi: int64(hi)}
	case 1:
		name := w.one("TON", "SR", "R_TRIG", "MC_Power", "MC_SetOverride")
		w.sign(name)
		return api.Var{Type: blockKinds()[name]}
	}
	v := api.Var{Type: plain}
	w.sign([]string{"", "INT", "BOOL"}[plain])
	if w.draw(2) == 0 {
		w.sign(":=")
		if plain == 1 {
			v.Init = w.signed()
		} else {
			v.Init = int64(w.draw(2))
			w.sign([]string{"FALSE", "TRUE"}[v.Init])
		}
	}
	return v
}

// section of variables.
func (w *writer) section() []api.Var {
	var list []api.Var
	kind := w.draw(3)
	w.sign([]string{"VAR", "VAR_INPUT", "VAR_OUTPUT"}[kind])
	for w.draw(3) != 0 {
		first := len(list)
		for more := true; more; {
			name, line := w.name()
			list = append(list, api.Var{Name: name, Line: line})
			if more = w.draw(3) == 0; more {
				w.sign(",")
			}
		}
		w.sign(":")
		like := w.typed()
		w.sign(";")
		for i := first; i < len(list); i++ {
			v := like
			v.Name, v.Line, v.Section = list[i].Name, list[i].Line, kind
			list[i] = v
		}
	}
	w.sign("END_VAR")
	return list
}

// program of about so many signs.
func (w *writer) program(many int) api.Program {
	w.line, w.left = 1, many
	w.sign("PROGRAM")
	p := api.Program{}
	p.Name, _ = w.name()
	for w.draw(2) == 0 {
		p.Vars = append(p.Vars, w.section()...)
	}
	p.Body = w.block()
	for w.left > 0 {
		p.Body = append(p.Body, w.block()...)
	}
	w.sign("END_PROGRAM")
	return p
}

// P18.1: drawn programs, with drawn gaps: the trees, lines too.
func TestDrawnPrograms(t *testing.T) {
	deep := map[int]int{}
	for seed := range 3000 {
		w := &writer{x: uint64(seed)}
		want := w.program(w.draw(400))
		if len(want.Vars) > 64 || w.text.Len() > 16384 {
			continue
		}
		deep[w.most]++
		text := w.text.String()
		got := parsed(t, text)
		s := shower{lines: true}
		if s.program(got) != s.program(want) {
			t.Fatalf("Parse(%q):\n%s, not\n%s", text, s.program(got), s.program(want))
		}
		if !Same(got, want) || !Same(want, got) {
			t.Fatalf("%q: unlike what was drawn", text)
		}
	}
	if deep[1]+deep[2] == 0 || deep[8]+deep[9]+deep[10] < 100 {
		t.Error(deep)
	}
}

// P18.1: drawn programs of few signs, of which one or two are others: the first error, or none.
func TestDrawnErrors(t *testing.T) {
	j := newJudge()
	many := map[api.Errno]int{}
	for seed := range 1500 {
		w := &writer{x: uint64(seed) + 1<<40}
		want := w.program(20 + w.draw(40))
		signs := signsOf(t, w.text.String())
		if len(want.Vars) > 40 || len(signs) > 300 {
			continue
		}
		for range 4 {
			changed := slices.Clone(signs)
			for range 1 + w.draw(2) {
				at := w.draw(len(changed))
				switch w.draw(4) {
				case 0:
					changed = slices.Delete(changed, at, at+1)
				case 1:
					changed = slices.Insert(changed, at, w.one(otherSigns()...))
				case 2:
					changed[at] = w.one(otherSigns()...)
				case 3:
					changed[at] = changed[w.draw(len(changed))]
				}
			}
			many[j.hold(t, changed, 0)]++
		}
	}
	if many[0] < 200 || many[5] < 2000 || many[1] < 5 || many[9] < 5 {
		t.Error(many)
	}
}
