package tree

import (
	"slices"
	"strings"
	"testing"

	"servitor/api"
	"servitor/tok"
)

// The chapter's grammar; signs that would mean something in it are quoted.
const chapter = `
program = PROGRAM name {section} {stmt} END_PROGRAM end
section = (VAR | VAR_INPUT | VAR_OUTPUT) {names : type [:= value] ;} END_VAR
names = name {, name}
type = INT | BOOL | ARRAY "[" number .. number "]" OF (INT | BOOL) | name
value = [-] number | TRUE | FALSE
stmt = name [ "[" expr "]" ] := expr ; | name "(" [name := expr {, name := expr}] ")" ; | IF expr THEN {stmt} {ELSIF expr THEN {stmt}} [ELSE {stmt}] END_IF ; | CASE expr OF {labels : {stmt}} [ELSE {stmt}] END_CASE ; | FOR name := expr TO expr [BY expr] DO {stmt} END_FOR ; | WHILE expr DO {stmt} END_WHILE ; | REPEAT {stmt} UNTIL expr END_REPEAT ; | EXIT ; | RETURN ;
labels = label {, label}
label = [-] number [.. [-] number]
expr = xors {OR xors}
xors = ands {XOR ands}
ands = compare {AND compare}
compare = sum [(= | <> | < | > | <= | >=) sum]
sum = term {(+ | -) term}
term = unary {(* | / | MOD) unary}
unary = - unary | NOT unary | factor
factor = number | TRUE | FALSE | "(" expr ")" | name [ "[" expr "]" | . name ]
`

// prod is one way to write what a rule stands for.
type prod struct {
	rule  string
	parts []string
}

// grammar is a list of them; those without a line of their own have names with a #.
type grammar struct {
	prods []prod
	ways  map[string][]int
	empty map[string]bool // a rule that may stand for nothing
}

func (g *grammar) add(rule string, parts ...string) {
	g.ways[rule] = append(g.ways[rule], len(g.prods))
	g.prods = append(g.prods, prod{rule, parts})
}

// pieces of a line: what means something in it, quoted signs (with the quotes), names and signs.
func pieces(line string) []string {
	for _, meta := range []string{"{", "}", "|"} {
		line = strings.ReplaceAll(line, meta, " "+meta+" ")
	}
	var out []string
	for word := range strings.FieldsSeq(line) {
		if strings.HasPrefix(word, `"`) {
			out = append(out, word)
			continue
		}
		for _, meta := range []string{"[", "]", "(", ")"} {
			word = strings.ReplaceAll(word, meta, " "+meta+" ")
		}
		out = append(out, strings.Fields(word)...)
	}
	return out
}

// alternatives up to a closing piece, for this rule; the pieces that are left.
func (g *grammar) alternatives(rule string, list []string) []string {
	var parts []string
	for {
		if len(list) == 0 || strings.Contains("]})", list[0]) {
			g.add(rule, parts...)
			return list
		}
		piece := list[0]
		list = list[1:]
		switch piece {
		case "|":
			g.add(rule, parts...)
			parts = nil
		case "[", "{", "(":
			inner := rule + "#" + string(rune('a'+len(g.prods)))
			g.ways[inner] = nil
			list = g.alternatives(inner, list)[1:]
			outer := inner
			if piece != "(" {
				outer = inner + "#"
				g.add(outer)
			}
			if piece == "[" {
				g.add(outer, inner)
			} else if piece == "{" {
				g.add(outer, outer, inner)
			}
			parts = append(parts, outer)
		default:
			parts = append(parts, strings.Trim(piece, `"`))
		}
	}
}

func newGrammar() *grammar {
	g := &grammar{ways: map[string][]int{}, empty: map[string]bool{}}
	for line := range strings.Lines(chapter) {
		if rule, right, found := strings.Cut(strings.TrimSpace(line), " = "); found {
			g.alternatives(rule, pieces(right))
		}
	}
	for changed := true; changed; {
		changed = false
		for _, p := range g.prods {
			if !g.empty[p.rule] && !slices.ContainsFunc(p.parts, func(part string) bool { return !g.empty[part] }) {
				g.empty[p.rule] = true
				changed = true
			}
		}
	}
	return g
}

// item is a way that is gone so far, from where it began.
type item struct{ prod, dot, from int }

// column is what may be under way behind so many signs.
type column struct {
	items   []item
	seen    map[item]bool
	waiting map[string][]item // by what they need next
}

// chart of a row of signs: all that the grammar allows of it (Earley's way), column by column.
type chart struct {
	g       *grammar
	columns []column
}

func (g *grammar) chart() *chart {
	c := &chart{g: g}
	var first []item
	for _, way := range g.ways["program"] {
		first = append(first, item{way, 0, 0})
	}
	c.open(first)
	return c
}

// open a column with these, and all that follows from them.
func (c *chart) open(list []item) {
	at := len(c.columns)
	c.columns = append(c.columns, column{seen: map[item]bool{}, waiting: map[string][]item{}})
	col := &c.columns[at]
	add := func(i item) {
		if !col.seen[i] {
			col.seen[i] = true
			col.items = append(col.items, i)
		}
	}
	for _, i := range list {
		add(i)
	}
	for next := 0; next < len(col.items); next++ {
		i := col.items[next]
		p := c.g.prods[i.prod]
		if i.dot == len(p.parts) {
			for _, w := range c.columns[i.from].waiting[p.rule] {
				add(item{w.prod, w.dot + 1, w.from})
			}
			continue
		}
		part := p.parts[i.dot]
		col.waiting[part] = append(col.waiting[part], i)
		for _, way := range c.g.ways[part] {
			add(item{way, 0, at})
		}
		if c.g.empty[part] {
			add(item{i.prod, i.dot + 1, i.from})
		}
	}
}

// push a sign; false: the grammar has none that begins so.
func (c *chart) push(sign string) bool {
	var list []item
	for _, w := range c.columns[len(c.columns)-1].waiting[sign] {
		list = append(list, item{w.prod, w.dot + 1, w.from})
	}
	if len(list) == 0 {
		return false
	}
	c.open(list)
	return true
}

// back to so many signs.
func (c *chart) back(many int) { c.columns = c.columns[:many+1] }

// classOf a sign's text, as the grammar has it.
func classOf(text string) string {
	switch {
	case text[0] >= '0' && text[0] <= '9':
		return "number"
	case !tok.Word(text) && (text[0] >= 'a' && text[0] <= 'z' || text[0] >= 'A' && text[0] <= 'Z'):
		return "name"
	}
	return text
}

// fits is how many signs of a row fit, from a number of them on that are pushed; it is one more than there are, if the end fits behind them, too.
func (c *chart) fits(signs []string, from int) int {
	c.back(from)
	for i := from; i < len(signs); i++ {
		if !c.push(classOf(signs[i])) {
			return i
		}
	}
	if !c.push("end") {
		return len(signs)
	}
	return len(signs) + 1
}

// P18.1: the grammar that others are held against takes what is written out, and its rules are the chapter's.
func TestGrammar(t *testing.T) {
	g := newGrammar()
	for _, rule := range strings.Fields("program section names type value stmt labels label expr xors ands compare sum term unary factor") {
		if len(g.ways[rule]) == 0 {
			t.Errorf("no rule %s", rule)
		}
	}
	if len(g.ways["stmt"]) != 9 || len(g.ways["type"]) != 4 || len(g.ways["factor"]) != 5 || len(g.ways["unary"]) != 3 {
		t.Error(g.ways)
	}
	c := g.chart()
	for _, r := range rows() {
		signs := signsOf(t, r.text)
		if fit := c.fits(signs, 0); fit != len(signs)+1 {
			t.Errorf("%q: %d of %d signs fit", r.text, fit, len(signs))
		}
	}
	for _, text := range []string{"", "PROGRAM", "PROGRAM p a := 1 END_PROGRAM", "PROGRAM p a := 1 < 2 < 3; END_PROGRAM", "PROGRAM p END_PROGRAM x"} {
		if signs := signsOf(t, text); c.fits(signs, 0) > len(signs) {
			t.Errorf("%q fits", text)
		}
	}
}

// signsOf a text, but for the end.
func signsOf(t *testing.T, text string) []string {
	t.Helper()
	list, e, _ := tok.Lex(text)
	if e != api.OK {
		t.Fatalf("%q: %d", text, e)
	}
	var signs []string
	for _, s := range list[:len(list)-1] {
		signs = append(signs, s.Text)
	}
	return signs
}
