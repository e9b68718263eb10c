package tree

import (
	"reflect"
	"strconv"
	"strings"
	"testing"

	"servitor/api"
)

// trySame both ways.
func trySame(t *testing.T, what string, a, b api.Program, want bool) {
	t.Helper()
	if Same(a, b) != want || Same(b, a) != want {
		t.Errorf("%s: %t, %t, not %t", what, Same(a, b), Same(b, a), want)
	}
}

// P18.2: a text and the same one with a newline between all signs.
func TestSameButForLines(t *testing.T) {
	for _, r := range rows() {
		a := parsed(t, r.text)
		b := parsed(t, strings.Join(signsOf(t, r.text), "\n"))
		trySame(t, r.text, a, b, true)
		trySame(t, r.text, a, a, true)
		trySame(t, r.text, a, api.Program{}, false)
	}
	trySame(t, "none", api.Program{}, api.Program{}, true)
}

// P18.2: each two of what is written out.
func TestSameOfEachTwo(t *testing.T) {
	list := rows()
	var programs []api.Program
	for _, r := range list {
		programs = append(programs, parsed(t, r.text))
	}
	for i, a := range programs {
		for j, b := range programs {
			trySame(t, list[i].text+" and "+list[j].text, a, b, list[i].tree == list[j].tree)
		}
	}
}

// P18.2: texts that are alike, and texts that are unlike.
func TestSameTexts(t *testing.T) {
	for _, c := range []struct {
		a, b string
		same bool
	}{
		{"PROGRAM p a := 1; END_PROGRAM", "PROGRAM p\na := (1);\nEND_PROGRAM", true},
		{"PROGRAM p a := 1; END_PROGRAM", "PROGRAM p a := 2; END_PROGRAM", false},
		{"PROGRAM p a := 255; END_PROGRAM", "PROGRAM p a := 16#FF; END_PROGRAM", true},
		{"PROGRAM p a := 1; END_PROGRAM", "PROGRAM q a := 1; END_PROGRAM", false},
		{"PROGRAM p a := b + c + d; END_PROGRAM", "PROGRAM p a := (b + c) + d; END_PROGRAM", true},
		{"PROGRAM p a := b + c + d; END_PROGRAM", "PROGRAM p a := b + (c + d); END_PROGRAM", false},
		{"PROGRAM p a := -1; END_PROGRAM", "PROGRAM p a := 1; END_PROGRAM", false},
		{"PROGRAM p a := TRUE; END_PROGRAM", "PROGRAM p a := 1; END_PROGRAM", false},
		{"PROGRAM p a := b; END_PROGRAM", "PROGRAM p a := b.c; END_PROGRAM", false},
		{"PROGRAM p VAR a, b : INT; END_VAR END_PROGRAM", "PROGRAM p VAR a : INT; END_VAR VAR END_VAR VAR b : INT := -0; END_VAR END_PROGRAM", true},
		{"PROGRAM p VAR a, b : INT; END_VAR END_PROGRAM", "PROGRAM p VAR b, a : INT; END_VAR END_PROGRAM", false},
		{"PROGRAM p VAR a : INT := 1; END_VAR END_PROGRAM", "PROGRAM p VAR a : BOOL := TRUE; END_VAR END_PROGRAM", false},
		{"PROGRAM p FOR a := 1 TO 2 DO END_FOR; END_PROGRAM", "PROGRAM p FOR a := 1 TO 2 BY 1 DO END_FOR; END_PROGRAM", true},
		{"PROGRAM p CASE a OF 1: END_CASE; END_PROGRAM", "PROGRAM p CASE a OF 1..1: END_CASE; END_PROGRAM", true},
		{"PROGRAM p CASE a OF 1: END_CASE; END_PROGRAM", "PROGRAM p CASE a OF 1, 1: END_CASE; END_PROGRAM", false},
		{"PROGRAM p CASE a OF 1: ELSE END_CASE; END_PROGRAM", "PROGRAM p CASE a OF 1: END_CASE; END_PROGRAM", false},
		{"PROGRAM p CASE a OF 1, 2: 3: END_CASE; END_PROGRAM", "PROGRAM p CASE a OF 1: 2, 3: END_CASE; END_PROGRAM", false},
		{"PROGRAM p IF a THEN ELSE END_IF; END_PROGRAM", "PROGRAM p IF a THEN END_IF; END_PROGRAM", false},
		{"PROGRAM p IF a THEN b(); ELSE c(); END_IF; END_PROGRAM", "PROGRAM p IF a THEN b(); c(); ELSE END_IF; END_PROGRAM", false},
		{"PROGRAM p WHILE a DO END_WHILE; END_PROGRAM", "PROGRAM p REPEAT UNTIL a END_REPEAT; END_PROGRAM", false},
		{"PROGRAM p EXIT; END_PROGRAM", "PROGRAM p RETURN; END_PROGRAM", false},
		{"PROGRAM p t(a := 1, b := 2); END_PROGRAM", "PROGRAM p t(b := 2, a := 1); END_PROGRAM", false},
	} {
		trySame(t, c.a+" and "+c.b, parsed(t, c.a), parsed(t, c.b), c.same)
	}
}

// whole program, all of whose parts are there, at all depths; so no text has it.
func whole() api.Program {
	var p api.Program
	n := 0
	fill(reflect.ValueOf(&p).Elem(), 2, &n)
	return p
}

// fill all that is in a value by numbers that count up; lists have two items, down to a depth.
func fill(v reflect.Value, deep int, n *int) {
	*n++
	switch v.Kind() {
	case reflect.String:
		v.SetString("s" + strconv.Itoa(*n))
	case reflect.Bool:
		v.SetBool(true)
	case reflect.Int, reflect.Int64:
		v.SetInt(int64(*n))
	case reflect.Struct:
		for i := range v.NumField() {
			fill(v.Field(i), deep, n)
		}
	case reflect.Slice:
		nests := v.Type() == reflect.TypeFor[[]api.Expr]() || v.Type() == reflect.TypeFor[[][]api.Stmt]()
		if nests {
			deep--
		}
		if deep < 0 {
			return
		}
		v.Set(reflect.MakeSlice(v.Type(), 2, 2))
		for i := range 2 {
			fill(v.Index(i), deep, n)
		}
	}
}

// each value within a value, itself last; path says where it is.
func each(v reflect.Value, path string, do func(string, reflect.Value)) {
	switch v.Kind() {
	case reflect.Struct:
		for i := range v.NumField() {
			each(v.Field(i), path+"."+v.Type().Field(i).Name, do)
		}
	case reflect.Slice:
		for i := range v.Len() {
			each(v.Index(i), path+"["+strconv.Itoa(i)+"]", do)
		}
	}
	do(path, v)
}

// tryChanges of each part of a program, which build makes anew.
func tryChanges(t *testing.T, build func() api.Program) map[string]int {
	t.Helper()
	was, p := build(), build()
	many := map[string]int{}
	each(reflect.ValueOf(&p).Elem(), "p", func(path string, v reflect.Value) {
		kept := reflect.ValueOf(v.Interface())
		try := func(what string, to any, want bool) {
			many[what]++
			v.Set(reflect.ValueOf(to).Convert(v.Type()))
			trySame(t, path+" "+what, was, p, want)
			v.Set(kept)
		}
		switch v.Kind() {
		case reflect.String:
			try("longer", v.String()+"x", false)
			if v.String() != "" {
				try("no text", "", false)
				try("shorter", v.String()[1:], false)
			}
		case reflect.Bool:
			try("bool", !v.Bool(), false)
		case reflect.Int, reflect.Int64:
			line := strings.HasSuffix(path, ".Line")
			try("number", v.Int()+1, line)
			try("number", v.Int()-1, line)
			try("number", ^v.Int(), line)
			try("high bit", v.Int()^1<<62, line)
		case reflect.Slice:
			changeList(v, try)
		}
	})
	trySame(t, "all as it was", was, p, true)
	return many
}

// changeList: items more and less, in another order, and none in other ways.
func changeList(v reflect.Value, try func(string, any, bool)) {
	long := v.Len()
	zero := reflect.Zero(v.Type().Elem())
	copied := reflect.AppendSlice(reflect.MakeSlice(v.Type(), 0, long+3), v)
	try("copy with room", copied.Interface(), true)
	try("one more", reflect.Append(copied, zero).Interface(), false)
	if long == 0 {
		try("nil", reflect.Zero(v.Type()).Interface(), true)
		try("empty", reflect.MakeSlice(v.Type(), 0, 0).Interface(), true)
		return
	}
	try("last twice", reflect.Append(copied, v.Index(long-1)).Interface(), false)
	try("without last", v.Slice(0, long-1).Interface(), false)
	try("without first", v.Slice(1, long).Interface(), false)
	try("none", reflect.Zero(v.Type()).Interface(), false)
	if long > 1 && !reflect.DeepEqual(v.Index(0).Interface(), v.Index(1).Interface()) {
		swapped := reflect.AppendSlice(reflect.MakeSlice(v.Type(), 0, long), v)
		swapped.Index(0).Set(v.Index(1))
		swapped.Index(1).Set(v.Index(0))
		try("swapped", swapped.Interface(), false)
	}
}

// P18.2: each single part of a tree that some text has, another way.
func TestSameOfChangedTexts(t *testing.T) {
	for _, text := range []string{
		fullRow().text,
		"PROGRAM q VAR b, c : INT; END_VAR IF a THEN CASE b OF 1..2: WHILE c < d DO FOR e := f TO g BY h[i] DO t(x := y.z); END_FOR; END_WHILE; ELSE REPEAT l[3] := NOT (m OR n); UNTIL o END_REPEAT; END_CASE; END_IF; END_PROGRAM",
	} {
		many := tryChanges(t, func() api.Program { return parsed(t, text) })
		if many["number"] < 100 || many["no text"] < 10 || many["swapped"] < 5 || many["nil"] < 10 {
			t.Error(many)
		}
	}
}

// P18.2: each single part of a tree that has all of them everywhere, another way; no text has it.
func TestSameOfChangedWhole(t *testing.T) {
	many := tryChanges(t, whole)
	if many["number"] < 1000 || many["bool"] != 2 || many["no text"] < 400 || many["swapped"] < 100 || many["nil"] < 100 {
		t.Error(many)
	}
}

// P18.2: trees with parts missing, as no text has them.
func TestSameOfBrokenTrees(t *testing.T) {
	var programs []api.Program
	for op := -1; op < 24; op++ {
		programs = append(programs,
			api.Program{Body: []api.Stmt{{Op: op}}},
			api.Program{Body: []api.Stmt{{Op: op, Blocks: [][]api.Stmt{nil, {}}}}},
			api.Program{Body: []api.Stmt{{Op: op, Labels: [][]int64{{1}}}}},
			api.Program{Body: []api.Stmt{{Op: op, Labels: [][]int64{nil, {}}}}},
			api.Program{Body: []api.Stmt{{Op: 1, Val: api.Expr{Op: op}}}},
			api.Program{Body: []api.Stmt{{Op: 1, To: api.Expr{Op: op, Sub: make([]api.Expr, 3)}}}},
			api.Program{Body: []api.Stmt{{Op: 9, Conds: []api.Expr{{Op: op}}}}},
			api.Program{Body: []api.Stmt{{Op: 9, Fields: []string{strconv.Itoa(op)}}}},
			api.Program{Vars: []api.Var{{Type: op}}},
		)
	}
	for i, a := range programs {
		for j, b := range programs {
			want := reflect.DeepEqual(a, b)
			if Same(a, b) != want {
				t.Errorf("%v and %v: %t", programs[i], programs[j], !want)
			}
		}
	}
}

// P18.2: lists that are nil and empty are alike.
func TestSameOfNilAndEmpty(t *testing.T) {
	nothing := api.Stmt{Op: 2, Blocks: [][]api.Stmt{nil}, Labels: [][]int64{nil}}
	empty := api.Stmt{Op: 2, Blocks: [][]api.Stmt{{}}, Labels: [][]int64{{}}, Conds: []api.Expr{}, Fields: []string{}, To: api.Expr{Sub: []api.Expr{}}, Val: api.Expr{Sub: []api.Expr{}}, Line: 7}
	trySame(t, "statement", api.Program{Body: []api.Stmt{nothing}}, api.Program{Body: []api.Stmt{empty}, Vars: []api.Var{}}, true)
	trySame(t, "program", api.Program{}, api.Program{Body: []api.Stmt{}, Vars: []api.Var{}}, true)
	trySame(t, "lists", api.Program{Body: []api.Stmt{{Op: 2}}}, api.Program{Body: []api.Stmt{{Op: 2, Blocks: [][]api.Stmt{}, Labels: [][]int64{}}}}, true)
	trySame(t, "no block", api.Program{Body: []api.Stmt{{Op: 2}}}, api.Program{Body: []api.Stmt{nothing}}, false)
}

// P18.2: trees as deep as the document's bound of 2^16 parts.
func TestSameOfDeepTrees(t *testing.T) {
	deep := func(n int64) api.Program {
		x := api.Expr{Op: 1, N: n}
		for range 1 << 16 {
			x = api.Expr{Op: 6, Sub: []api.Expr{x}}
		}
		s := api.Stmt{Op: 1, Val: x}
		for range 1 << 12 {
			s = api.Stmt{Op: 5, Blocks: [][]api.Stmt{{s}}}
		}
		return api.Program{Body: []api.Stmt{s}}
	}
	trySame(t, "deep", deep(1), deep(1), true)
	trySame(t, "deep", deep(1), deep(2), false)
}

// Rule 3 of the document's 'Rules that hold everywhere': what is handed in stays as it is, spare room too.
func TestSameChangesNothing(t *testing.T) {
	a, b, was := whole(), whole(), whole()
	a.Body = append(a.Body, api.Stmt{Op: 7, Line: 3})[:2]
	a.Vars = append(a.Vars, api.Var{Name: "z"})[:2]
	if !Same(a, b) || !reflect.DeepEqual(a, was) || !reflect.DeepEqual(b, was) {
		t.Error(a, b)
	}
	if a.Body[:3][2].Line != 3 || a.Vars[:3][2].Name != "z" {
		t.Error(a.Body[:3], a.Vars[:3])
	}
}

// Rule 3 of the document's 'Rules that hold everywhere': an answer is new memory, and no two lists of it share any.
func TestParseAnswersNew(t *testing.T) {
	full := fullRow()
	want := (shower{}).program(parsed(t, full.text))
	first, second := parsed(t, full.text), parsed(t, full.text)
	each(reflect.ValueOf(&first).Elem(), "p", func(path string, v reflect.Value) {
		if v.Kind() == reflect.Slice && v.Len() > 0 {
			spare := v.Slice(0, v.Cap())
			for i := v.Len(); i < v.Cap(); i++ {
				n := 1000
				fill(spare.Index(i), 1, &n)
			}
		}
	})
	if got := (shower{}).program(first); got != want {
		t.Errorf("two lists share room: %s", got)
	}
	each(reflect.ValueOf(&first).Elem(), "p", func(path string, v reflect.Value) {
		if v.Kind() != reflect.Struct && v.Kind() != reflect.Slice {
			v.SetZero()
		}
	})
	if got := (shower{}).program(second); got != want {
		t.Errorf("two answers share memory: %s", got)
	}
	if got := (shower{}).program(parsed(t, full.text)); got != want {
		t.Errorf("an answer was kept: %s", got)
	}
}
