package show

import (
	"math"
	"reflect"
	"strconv"
	"strings"
	"testing"

	"servitor/api"
	"servitor/tree"
)

// tryDeep of a program: it is read just if it is at most 32 deep, and then as the same program.
func tryDeep(t *testing.T, p api.Program, deep int) {
	t.Helper()
	text, e := Show(p)
	if want := textOf(p); e != 0 || text != want {
		t.Errorf("%d deep: %d\n%s, not\n%s", deep, e, short(text), short(want))
		return
	}
	q, e, at := tree.Parse(text)
	if deep <= 32 && (e != 0 || !tree.Same(p, q)) || deep > 32 && e != 13 {
		t.Errorf("%d deep: %d at %v", deep, e, at)
	}
}

// deepOf an expression, as its text is: parentheses, indexes and operations of one count.
func deepOf(x api.Expr) int {
	deep := 0
	for _, sub := range x.Sub {
		deep = max(deep, deepOf(sub))
	}
	switch {
	case x.Op >= 8:
		return deep + 1
	case x.Op >= 6:
		return deep + 2
	case x.Op == 4:
		return deep + 1
	}
	return deep
}

// deepOfBody of statements: they count, and what is in them.
func deepOfBody(ss []api.Stmt) int {
	deep := 0
	for _, s := range ss {
		deep = max(deep, 1+deepOf(s.To), 1+deepOf(s.Val))
		for _, x := range s.Conds {
			deep = max(deep, 1+deepOf(x))
		}
		for _, b := range s.Blocks {
			deep = max(deep, 1+deepOfBody(b))
		}
	}
	return deep
}

// P19.2: each kind of statement within itself, up to as deep as is read, and deeper.
func TestDeepStatements(t *testing.T) {
	for _, w := range wraps() {
		for n := 28; n < 40; n++ {
			s := exit()
			for range n - 1 {
				s = w.build(body(s))
			}
			tryDeep(t, of(s), n)
			tryDeep(t, of(exit(), s, exit()), n)
		}
	}
}

// P19.2: each kind of expression within itself, up to as deep as is read, and deeper.
func TestDeepExpressions(t *testing.T) {
	a := name("a")
	builds := []func(api.Expr) api.Expr{neg, not, func(x api.Expr) api.Expr { return index("l", x) }}
	for op := 8; op < 22; op++ {
		builds = append(builds, func(x api.Expr) api.Expr { return two(x, op, a) }, func(x api.Expr) api.Expr { return two(a, op, x) })
	}
	for i, build := range builds {
		each := 1
		if i < 2 {
			each = 2
		}
		x := a
		for n := 1; n < 40; n++ {
			x = build(x)
			deep := each*n + 1
			tryDeep(t, of(assign(a, x)), deep)
			tryDeep(t, of(call("t", []string{"x"}, x)), deep)
			tryDeep(t, of(choice(list(a, x), nil, nil)), deep)
			tryDeep(t, of(count("i", a, a, x)), deep)
			tryDeep(t, of(assign(index("l", x), a)), deep+1)
			tryDeep(t, of(while(a, cases(x, nil))), deep+1)
			tryDeep(t, of(repeat(x, repeat(x, repeat(x)))), deep+2)
		}
	}
}

// drawer of programs.
type drawer struct{ state uint64 }

// draw a number below another one.
func (d *drawer) draw(n int) int {
	d.state = d.state*6364136223846793005 + 1442695040888963407
	return int((d.state >> 33) % uint64(n))
}

func (d *drawer) name() string {
	names := strings.Fields("a b c x1 Y_z TON Program abcdefghijklmnop if_ Q")
	return names[d.draw(len(names))]
}

func (d *drawer) number() int64 {
	switch d.draw(6) {
	case 0:
		return 0
	case 1:
		return math.MaxInt64
	case 2:
		return int64(d.draw(1<<30)) << 20
	}
	return int64(d.draw(20))
}

func (d *drawer) signed() int64 {
	if d.draw(2) == 0 {
		return -d.number()
	}
	return d.number()
}

func (d *drawer) expr(deep int) api.Expr {
	kind := d.draw(10)
	if deep == 0 {
		kind = d.draw(4)
	}
	switch kind {
	case 0:
		return num(d.number())
	case 1:
		return api.Expr{Op: 2, N: int64(d.draw(2))}
	case 2:
		return name(d.name())
	case 3:
		return field(d.name(), d.name())
	case 4:
		return index(d.name(), d.expr(deep-1))
	case 5:
		return neg(d.expr(deep - 1))
	case 6:
		return not(d.expr(deep - 1))
	}
	return two(d.expr(deep-1), 8+d.draw(14), d.expr(deep-1))
}

func (d *drawer) body(deep int) []api.Stmt {
	var ss []api.Stmt
	for range d.draw(4) {
		ss = append(ss, d.stmt(deep))
	}
	return ss
}

func (d *drawer) stmt(deep int) api.Stmt {
	kind := 1 + d.draw(9)
	if deep == 0 {
		kind = []int{1, 7, 8, 9}[d.draw(4)]
	}
	switch kind {
	case 1:
		to := name(d.name())
		if d.draw(2) == 0 {
			to = index(d.name(), d.expr(2))
		}
		return assign(to, d.expr(4))
	case 2, 3:
		s := api.Stmt{Op: kind}
		many := 1 + d.draw(3)
		if kind == 3 {
			s.Val = d.expr(2)
			many--
		}
		for range many {
			if kind == 2 {
				s.Conds = append(s.Conds, d.expr(2))
			} else {
				s.Labels = append(s.Labels, d.labels())
			}
			s.Blocks = append(s.Blocks, d.body(deep-1))
		}
		if d.draw(2) == 0 {
			s.Blocks = append(s.Blocks, d.body(deep-1))
		}
		return s
	case 4:
		return count(d.name(), d.expr(2), d.expr(2), d.expr(2), d.body(deep-1)...)
	case 5:
		return while(d.expr(2), d.body(deep-1)...)
	case 6:
		return repeat(d.expr(2), d.body(deep-1)...)
	case 9:
		s := call(d.name(), nil)
		for range d.draw(4) {
			s.Fields = append(s.Fields, d.name())
			s.Conds = append(s.Conds, d.expr(2))
		}
		return s
	}
	return api.Stmt{Op: kind}
}

func (d *drawer) labels() []int64 {
	var bounds []int64
	for range 1 + d.draw(3) {
		n := d.signed()
		if d.draw(2) == 0 {
			bounds = append(bounds, n, n)
		} else {
			bounds = append(bounds, n, d.signed())
		}
	}
	return bounds
}

func (d *drawer) variable() api.Var {
	v := api.Var{Name: d.name(), Section: d.draw(3), Type: 1 + d.draw(2)}
	switch d.draw(4) {
	case 0:
		v.Type = 10 + d.draw(9)
	case 1:
		v.Type = 20 + d.draw(12)
	case 2:
		v.Array = true
		v.Lo = int64(d.draw(256))
		v.Hi = v.Lo + int64(d.draw(256-int(v.Lo)))
	case 3:
		v.Init = int64(d.draw(2))
		if v.Type == 1 {
			v.Init = d.signed()
		}
	}
	return v
}

func (d *drawer) program() api.Program {
	p := api.Program{Name: d.name(), Body: d.body(3)}
	for range d.draw(6) {
		p.Vars = append(p.Vars, d.variable())
	}
	return p
}

// P19.1 and P19.2: drawn programs are shown as the chapter says, and read as they were.
func TestDrawnPrograms(t *testing.T) {
	d := drawer{state: 19}
	read, deeper, longer := 0, 0, 0
	for range 4000 {
		p := d.program()
		want := textOf(p)
		if len(want) > 16384 {
			tryFails(t, "drawn", p, 13)
			longer++
			continue
		}
		deep := deepOfBody(p.Body)
		tryDeep(t, p, deep)
		if deep > 32 {
			deeper++
		} else {
			read++
		}
	}
	if read < 3000 {
		t.Error(read, deeper, longer)
	}
}

// P19.2: drawn programs about as deep as is read.
func TestDrawnDepths(t *testing.T) {
	d := drawer{state: 32}
	seen := map[int]int{}
	for range 3000 {
		x := d.expr(1)
		for range d.draw(20) {
			switch d.draw(5) {
			case 0:
				x = neg(x)
			case 1:
				x = not(x)
			case 2:
				x = index("l", x)
			case 3:
				x = two(x, 8+d.draw(14), d.expr(1))
			case 4:
				x = two(d.expr(1), 8+d.draw(14), x)
			}
		}
		b := body(assign(name("a"), x))
		for range d.draw(20) {
			all := wraps()
			b = body(exit(), all[d.draw(len(all))].build(b))
		}
		p := of(b...)
		deep := deepOfBody(p.Body)
		tryDeep(t, p, deep)
		seen[deep]++
	}
	if seen[31] < 10 || seen[32] < 10 || seen[33] < 10 || seen[34] < 10 {
		t.Error(seen)
	}
}

// tryAgain of a text: its program is shown, read as the same, and shown as the same text; the text that is shown.
func tryAgain(t *testing.T, text string) string {
	t.Helper()
	p, e, _ := tree.Parse(text)
	if e != 0 {
		t.Errorf("%s: %d", short(text), e)
		return ""
	}
	shown, e := Show(p)
	if e != 0 || shown != textOf(p) {
		t.Errorf("%s: %d\n%s", short(text), e, short(shown))
		return ""
	}
	q, e, _ := tree.Parse(shown)
	if e == 13 && deepOfBody(p.Body) > 32 {
		return shown
	}
	if e != 0 || !tree.Same(p, q) {
		t.Errorf("%s: read of\n%s: %d", short(text), short(shown), e)
	}
	if again, e := Show(q); e != 0 || again != shown {
		t.Errorf("%s:\n%s, not\n%s", short(text), short(again), short(shown))
	}
	return shown
}

// P19.2: texts as they may be written.
func TestShownAgain(t *testing.T) {
	for text, want := range map[string]string{
		"PROGRAM p END_PROGRAM": "",
		"PROGRAM\tp//x\nVAR END_VAR VAR_INPUT END_VAR\nEND_PROGRAM":                       "",
		"PROGRAM p a:=16#FF+2#101*8#17;END_PROGRAM":                                       "a := (255 + (5 * 15));\n",
		"PROGRAM p a:=007;END_PROGRAM":                                                    "a := 7;\n",
		"PROGRAM p VAR a,b:INT;c:BOOL;END_VAR END_PROGRAM":                                "VAR\na : INT := 0;\nEND_VAR\nVAR\nb : INT := 0;\nEND_VAR\nVAR\nc : BOOL := FALSE;\nEND_VAR\n",
		"PROGRAM p VAR a : INT := - 16#10; END_VAR END_PROGRAM":                           "VAR\na : INT := -16;\nEND_VAR\n",
		"PROGRAM p VAR a : INT := - 0; END_VAR END_PROGRAM":                               "VAR\na : INT := 0;\nEND_VAR\n",
		"PROGRAM p VAR a:ARRAY[8#1 .. 16#F]OF INT;END_VAR END_PROGRAM":                    "VAR\na : ARRAY[1..15] OF INT;\nEND_VAR\n",
		"PROGRAM p a:=1+2-3*4/5 MOD 6;END_PROGRAM":                                        "a := ((1 + 2) - (((3 * 4) / 5) MOD 6));\n",
		"PROGRAM p a:=NOT b AND c XOR d OR e=f;END_PROGRAM":                               "a := ((((NOT b) AND c) XOR d) OR (e = f));\n",
		"PROGRAM p a:=--1;END_PROGRAM":                                                    "a := (-(-1));\n",
		"PROGRAM p a:=-NOT-b;END_PROGRAM":                                                 "a := (-(NOT (-b)));\n",
		"PROGRAM p a:=((((b))));END_PROGRAM":                                              "a := b;\n",
		"PROGRAM p a[(1)]:=b [ 2 ] + t . Q;END_PROGRAM":                                   "a[1] := (b[2] + t.Q);\n",
		"PROGRAM p t ( ) ; t(x:=1,y:=(2));END_PROGRAM":                                    "t();\nt(x := 1, y := 2);\n",
		"PROGRAM p FOR i:=1 TO 2 DO EXIT;END_FOR;END_PROGRAM":                             "FOR i := 1 TO 2 BY 1 DO\nEXIT;\nEND_FOR;\n",
		"PROGRAM p FOR i:=1 TO 2 BY -1 DO END_FOR;END_PROGRAM":                            "FOR i := 1 TO 2 BY (-1) DO\nEND_FOR;\n",
		"PROGRAM p CASE a OF 1,2..2,- 3..-1:4:a:=1;-5:END_CASE;END_PROGRAM":               "CASE a OF\n1, 2, -3..-1:\n4:\na := 1;\n-5:\nEND_CASE;\n",
		"PROGRAM p CASE a OF 1..1:ELSE END_CASE;END_PROGRAM":                              "CASE a OF\n1:\nELSE\nEND_CASE;\n",
		"PROGRAM p CASE a OF -0..0:END_CASE;END_PROGRAM":                                  "CASE a OF\n0:\nEND_CASE;\n",
		"PROGRAM p REPEAT(*x*)UNTIL a END_REPEAT;WHILE a DO RETURN;END_WHILE;END_PROGRAM": "REPEAT\nUNTIL a END_REPEAT;\nWHILE a DO\nRETURN;\nEND_WHILE;\n",
		"PROGRAM p IF a THEN IF b THEN ELSE EXIT;END_IF;ELSIF c THEN END_IF;END_PROGRAM":  "IF a THEN\nIF b THEN\nELSE\nEXIT;\nEND_IF;\nELSIF c THEN\nEND_IF;\n",
	} {
		if got := tryAgain(t, text); got != "PROGRAM p\n"+want+"END_PROGRAM\n" {
			t.Errorf("%s:\n%s", text, got)
		}
	}
}

// P19.2: drawn texts, with parentheses, blanks and signs as they may come.
func TestDrawnTexts(t *testing.T) {
	d := drawer{state: 77}
	pieces := strings.Fields("+ - * / MOD = <> < >= AND XOR OR")
	gaps := []string{" ", "\n", "\t ", " (* a *) ", " // b\n"}
	read := 0
	for range 5000 {
		text := "PROGRAM p a :="
		for i := range 1 + d.draw(12) {
			if i > 0 {
				text += gaps[d.draw(5)] + pieces[d.draw(len(pieces))]
			}
			for range d.draw(3) {
				text += gaps[d.draw(5)] + []string{"-", "NOT"}[d.draw(2)]
			}
			text += gaps[d.draw(5)] + []string{"7", "x", "t.Q", "l[x+1]", "(x-1)", "((x OR y))", "TRUE", "16#F"}[d.draw(8)]
		}
		text += "; END_PROGRAM"
		if _, e, _ := tree.Parse(text); e == 0 {
			tryAgain(t, text)
			read++
		}
	}
	if read < 500 {
		t.Error(read)
	}
}

// P19.2: what was read of a text of as many bytes as there may be is shown, if it isn't too long.
func TestLongTextsAgain(t *testing.T) {
	for _, piece := range []string{"a:=1;", "EXIT;", "IF a THEN END_IF;", "REPEAT\nUNTIL a END_REPEAT;\n", "RETURN;\n", "a := (1 + 2);\n", " \n"} {
		for _, less := range []int{0, 1, 200, 4000, 12000} {
			many := (16384 - less - 30) / len(piece)
			text := "PROGRAM p\n" + strings.Repeat(piece, many) + "END_PROGRAM\n"
			p, e, _ := tree.Parse(text)
			if e != 0 {
				t.Fatal(piece, e)
			}
			if want := textOf(p); len(want) > 16384 {
				tryFails(t, "long", p, 13)
			} else if got := tryAgain(t, text); got != want {
				t.Errorf("%s, %d times: %s", piece, many, short(got))
			}
		}
	}
}

// Rule 3 of the document's 'Rules that hold everywhere': what is handed in stays as it is, spare room too.
func TestShowChangesNothing(t *testing.T) {
	p := full(t)
	spare := append(append(body(), p.Body...), assign(name("z"), num(9)))
	vars := append(append([]api.Var{}, p.Vars...), api.Var{Name: "z", Type: 3})
	p.Body, p.Vars = spare[:len(p.Body)], vars[:len(p.Vars)]
	text, e := Show(p)
	if e != 0 || !reflect.DeepEqual(p, full(t)) {
		t.Error(e, p)
	}
	if z := spare[len(p.Body)]; !reflect.DeepEqual(z, assign(name("z"), num(9))) {
		t.Error(z)
	}
	if z := vars[len(p.Vars)]; z != (api.Var{Name: "z", Type: 3}) {
		t.Error(z)
	}
	// What was shown stays, whatever becomes of the program.
	kept := strings.Clone(text)
	p.Body[0], p.Vars[0].Name = exit(), "other"
	if text != kept {
		t.Error(text)
	}
}

// Rule 4 of the document's 'Rules that hold everywhere': nothing is kept from call to call.
func TestShowKeepsNothing(t *testing.T) {
	want, e := Show(full(t))
	if e != 0 {
		t.Fatal(e)
	}
	for i, other := range []api.Program{{}, of(exit()), {Name: "IF"}, of(api.Stmt{}), having(api.Var{Name: "a", Type: 1})} {
		Show(other)
		if got, e := Show(full(t)); e != 0 || got != want {
			t.Error(strconv.Itoa(i), e, got)
		}
	}
}
