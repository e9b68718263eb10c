package show

import (
	"math"
	"reflect"
	"strconv"
	"strings"
	"testing"

	"servitor/api"
	"servitor/tree"
)

// noNames: texts that no sign of a program's names has.
func noNames() []string {
	words := strings.Fields("PROGRAM END_PROGRAM VAR VAR_INPUT VAR_OUTPUT END_VAR INT BOOL ARRAY OF TRUE FALSE IF THEN ELSIF ELSE END_IF CASE END_CASE FOR TO BY DO END_FOR WHILE END_WHILE REPEAT UNTIL END_REPEAT EXIT RETURN AND OR XOR NOT MOD")
	return append(words, "", " ", "\n", "_", "_a", "1", "1a", "16#A", "-", ":=", ";", "a b", "a ", " a", "a\n", "\na", "\ta", "a\r", "a\x00", "\x00", "a.b", "a;", "a[1]", "(a)", "a,b", "a-b", "a//", "//a", "//a\na", "a(**)", "(**)a", "(*a*)", "é", "aé", "a\xff", "ａ", "abcdefghijklmnopq", "a"+strings.Repeat("b", 16), strings.Repeat("a", 17000), "IF ", " IF", "IF a", "a IF")
}

// P19.1: names that no text gives, wherever a name stands.
func TestNoNames(t *testing.T) {
	a := name("a")
	for _, n := range noNames() {
		what := strconv.Quote(short(n))
		for i, p := range []api.Program{
			{Name: n},
			having(api.Var{Name: n, Type: 1}),
			having(api.Var{Name: "a", Type: 1}, api.Var{Name: n, Type: 10}),
			of(assign(name(n), a)),
			of(assign(a, name(n))),
			of(assign(index(n, a), a)),
			of(assign(a, index(n, a))),
			of(assign(a, index("l", name(n)))),
			of(assign(a, field(n, "f"))),
			of(assign(a, field("t", n))),
			of(assign(a, neg(name(n)))),
			of(assign(a, two(a, 8, name(n)))),
			of(assign(a, two(name(n), 8, a))),
			of(count(n, a, a, a)),
			of(count("i", name(n), a, a)),
			of(count("i", a, name(n), a)),
			of(count("i", a, a, name(n))),
			of(call(n, nil)),
			of(call("t", []string{n}, a)),
			of(call("t", []string{"x", n}, a, a)),
			of(call("t", []string{"x"}, name(n))),
			of(choice(list(name(n)), nil)),
			of(cases(name(n), nil)),
			of(while(name(n))),
			of(repeat(name(n))),
			of(while(a, call(n, nil))),
		} {
			tryFails(t, what+" at "+strconv.Itoa(i), p, 5)
			if isProgram(p) {
				t.Errorf("%s at %d is a program", what, i)
			}
		}
	}
}

// P19.1: variables of each type, section, bounds and value, right or not.
func TestRightVariables(t *testing.T) {
	many := 0
	for kind := -2; kind < 35; kind++ {
		for _, section := range []int{-1, 0, 1, 2, 3} {
			for _, init := range []int64{0, 1, 2, -1, math.MinInt64, math.MinInt64 + 1, math.MaxInt64} {
				plain := kind == 1 || kind == 2
				block := kind >= 10 && kind <= 31 && kind != 19
				valued := init == 0 || kind == 1 && init != math.MinInt64 || kind == 2 && init == 1
				placed := section >= 0 && section <= 2
				v := api.Var{Name: "a", Type: kind, Section: section, Init: init}
				right := placed && (plain || block) && valued
				if got := tryForm(t, "variable", having(v)); got != right {
					t.Errorf("%v: %t", v, got)
				}
				for _, lo := range []int64{0, 1, 254, 255, 256, -1, math.MinInt64, math.MaxInt64} {
					for _, hi := range []int64{0, 1, 254, 255, 256, -1, math.MinInt64, math.MaxInt64} {
						v := api.Var{Name: "a", Type: kind, Section: section, Init: init, Lo: lo, Hi: hi, Array: true}
						right := placed && plain && init == 0 && lo >= 0 && lo <= hi && hi <= 255
						_, e := Show(having(v))
						if right != (e == 0) || !right && e != 5 {
							t.Errorf("%v: %d", v, e)
						}
						if v.Array = false; lo != 0 || hi != 0 {
							tryFails(t, "bounds of none", having(v), 5)
						}
						if right {
							many++
						}
					}
				}
			}
		}
	}
	// Of 6 plain types and sections: of the bounds 0, 1, 254 and 255 ten pairs.
	if many != 60 {
		t.Error(many)
	}
}

// P19.1: an array's parts by what is read of its text.
func TestArraysAsRead(t *testing.T) {
	for kind := 0; kind < 4; kind++ {
		for lo := int64(-1); lo < 4; lo++ {
			for hi := int64(-1); hi < 4; hi++ {
				for init := int64(-1); init < 3; init++ {
					tryForm(t, "array", having(api.Var{Name: "a", Type: kind, Array: true, Lo: lo, Hi: hi, Init: init}))
				}
			}
		}
	}
	for hi := int64(250); hi < 260; hi++ {
		tryForm(t, "array", having(api.Var{Name: "a", Type: 1, Array: true, Lo: 250, Hi: hi}))
	}
}

// P19.1: expressions of each kind with each mix of parts, right or not.
func TestMixedExpressions(t *testing.T) {
	subs := [][]api.Expr{nil, list(name("x")), list(name("x"), num(2)), list(yes(), no(), yes()), {}, list(api.Expr{}), list(num(1), api.Expr{}), list(api.Expr{}, num(1)), list(num(-1)), list(num(1), num(-1))}
	many := 0
	for op := -2; op < 25; op++ {
		for _, n := range []int64{0, 1, 2, -1, math.MinInt64, math.MaxInt64} {
			for _, called := range []string{"", "a", "IF"} {
				for _, field := range []string{"", "b", "b c"} {
					for _, sub := range subs {
						x := api.Expr{Op: op, N: n, Name: called, Field: field, Sub: sub}
						if tryForm(t, "expression", of(assign(name("y"), x))) {
							many++
						}
						place := tryForm(t, "place", of(assign(x, name("y"))))
						if place && op != 3 && op != 4 {
							t.Errorf("%v is no place", x)
						}
					}
				}
			}
		}
	}
	// Of each number (0, 1, 2, the greatest) and truth, name and field, with no others in it (nil, empty) two; of an index and an operation of one one; of an operation of two one.
	if many != 4*2+2*2+2+2+3+14 {
		t.Error(many)
	}
}

// P19.1: a wrong expression wherever an expression stands.
func TestWrongExpressions(t *testing.T) {
	a := name("a")
	for i, x := range []api.Expr{
		{}, {Op: -1}, {Op: 22}, {Op: 1 << 40}, {Op: 8 - 1<<32, Sub: list(a, a)}, num(-1), num(math.MinInt64), {Op: 1, N: 1, Name: "a"}, {Op: 1, Field: "a"}, {Op: 1, Sub: list(a)},
		{Op: 2, N: 2}, {Op: 2, N: -1}, {Op: 2, Name: "a"}, {Op: 2, Field: "f"}, {Op: 2, Sub: list(a)},
		{Op: 3}, {Op: 3, Name: "a", N: 1}, {Op: 3, Name: "a", Field: "f"}, {Op: 3, Name: "a", Sub: list(a)},
		{Op: 4}, {Op: 4, Name: "a"}, {Op: 4, Sub: list(a)}, {Op: 4, Name: "a", Sub: list(a, a)}, {Op: 4, Name: "a", Sub: list(a), N: 1}, {Op: 4, Name: "a", Sub: list(a), Field: "f"}, index("a", num(-1)), index("a", api.Expr{}),
		{Op: 5}, {Op: 5, Name: "a"}, {Op: 5, Field: "a"}, {Op: 5, Name: "a", Field: "f", N: 1}, {Op: 5, Name: "a", Field: "f", Sub: list(a)},
		{Op: 6}, {Op: 6, Sub: list(a, a)}, {Op: 6, Sub: list(a), N: 1}, {Op: 6, Sub: list(a), Name: "a"}, {Op: 6, Sub: list(a), Field: "f"}, neg(api.Expr{}), neg(num(-1)),
		{Op: 7}, {Op: 7, Sub: list(a, a)}, {Op: 7, Sub: list(a), N: -1}, {Op: 7, Sub: list(a), Name: "a"}, {Op: 7, Sub: list(a), Field: "f"}, not(api.Expr{Op: 2, N: 3}),
		{Op: 8}, {Op: 8, Sub: list(a)}, {Op: 8, Sub: list(a, a, a)}, {Op: 21, Sub: list(a, a), N: 1}, {Op: 15, Sub: list(a, a), Name: "a"}, {Op: 12, Sub: list(a, a), Field: "f"}, two(a, 9, api.Expr{}), two(api.Expr{}, 9, a), two(two(a, 8, neg(num(-3))), 9, a),
	} {
		for j, p := range []api.Program{
			of(assign(a, x)), of(assign(x, a)), of(assign(index("l", x), a)), of(assign(a, index("l", x))), of(assign(a, neg(x))), of(assign(a, not(x))), of(assign(a, two(x, 8, a))), of(assign(a, two(a, 21, x))),
			of(choice(list(x), nil)), of(choice(list(a, x), nil, nil)), of(cases(x, nil)), of(count("i", x, a, a)), of(count("i", a, x, a)), of(count("i", a, a, x)), of(while(x)), of(repeat(x)),
			of(call("t", []string{"x"}, x)), of(call("t", []string{"x", "y"}, a, x)), of(exit(), while(a, assign(a, x))),
		} {
			tryFails(t, strconv.Itoa(i)+" at "+strconv.Itoa(j), p, 5)
		}
	}
	for _, x := range []api.Expr{num(1), yes(), field("t", "Q"), neg(a), not(a), two(a, 8, a), two(a, 13, a)} {
		tryFails(t, "no place", of(assign(x, a)), 5)
	}
}

// somes of a list's items: none, one and more, up to so many.
func somes[T any](item T, most int) [][]T {
	lists := [][]T{nil}
	for n := 1; n <= most; n++ {
		l := make([]T, n)
		for i := range l {
			l[i] = item
		}
		lists = append(lists, l)
	}
	return lists
}

// P19.1: statements of each kind with each mix of parts, right or not.
func TestMixedStatements(t *testing.T) {
	many := map[int]int{}
	for op := -1; op < 12; op++ {
		for _, called := range []string{"", "a"} {
			for _, to := range []api.Expr{{}, name("a"), index("l", num(1)), field("t", "f")} {
				for _, val := range []api.Expr{{}, num(3)} {
					for _, conds := range somes(yes(), 4) {
						for _, labels := range somes([]int64{1, 2}, 3) {
							for _, fields := range somes("f", 3) {
								for _, blocks := range somes(body(exit()), 4) {
									s := api.Stmt{Op: op, Name: called, To: to, Val: val, Conds: conds, Labels: labels, Fields: fields, Blocks: blocks}
									if tryForm(t, "statement", of(s)) {
										many[op]++
									}
								}
							}
						}
					}
				}
			}
		}
	}
	// IF with one to four conditions (four: no room for ELSE here), CASE with none to three labels, calls with none to three inputs.
	want := map[int]int{1: 2, 2: 7, 3: 8, 4: 1, 5: 1, 6: 1, 7: 1, 8: 1, 9: 4}
	if !reflect.DeepEqual(many, want) {
		t.Error(many)
	}
}

// P19.1: labels that are none.
func TestWrongLabels(t *testing.T) {
	a := name("a")
	for _, bounds := range [][]int64{nil, {}, {1}, {1, 1, 1}, {1, 2, 3, 4, 5}, {math.MinInt64, 1}, {1, math.MinInt64}, {1, 1, math.MinInt64, math.MinInt64}, {1, 1, 2, math.MinInt64}} {
		tryFails(t, "labels", of(cases(a, [][]int64{bounds}, nil)), 5)
		tryFails(t, "labels", of(cases(a, [][]int64{bounds}, nil, nil)), 5)
		tryFails(t, "labels", of(cases(a, [][]int64{{1, 1}, bounds}, nil, nil)), 5)
		tryFails(t, "labels", of(cases(a, [][]int64{bounds, {1, 1}}, nil, nil)), 5)
		tryFails(t, "labels", of(while(a, cases(a, [][]int64{bounds}, nil))), 5)
	}
}

// P19.1: a wrong statement wherever a statement stands.
func TestWrongStatements(t *testing.T) {
	a := name("a")
	for i, s := range []api.Stmt{
		{}, {Op: -1}, {Op: 10}, {Op: 1 << 33}, {Op: 7 + 1<<32}, {Op: 1}, {Op: 2}, {Op: 3}, {Op: 4}, {Op: 5}, {Op: 6}, {Op: 9},
		{Op: 7, Name: "a"}, {Op: 7, To: a}, {Op: 7, Val: a}, {Op: 7, Conds: list(a)}, {Op: 7, Labels: [][]int64{{1, 1}}}, {Op: 7, Fields: []string{"f"}}, {Op: 7, Blocks: [][]api.Stmt{nil}}, {Op: 7, Blocks: [][]api.Stmt{body(exit())}},
		{Op: 8, Name: "a"}, {Op: 8, To: a}, {Op: 8, Val: a}, {Op: 8, Conds: list(a)}, {Op: 8, Labels: [][]int64{nil}}, {Op: 8, Fields: []string{""}}, {Op: 8, Blocks: [][]api.Stmt{{}}},
		{Op: 8, To: api.Expr{N: 1}}, {Op: 8, To: api.Expr{Name: "a"}}, {Op: 8, Val: api.Expr{Field: "a"}}, {Op: 8, Val: api.Expr{Sub: list(a)}}, {Op: 8, To: api.Expr{Sub: list(api.Expr{})}}, {Op: 8, Conds: list(api.Expr{})},
		{Op: 5, Val: a, Blocks: [][]api.Stmt{body(api.Stmt{})}},
	} {
		for j, p := range []api.Program{of(s), of(exit(), s), of(s, exit())} {
			tryFails(t, strconv.Itoa(i)+" at "+strconv.Itoa(j), p, 5)
		}
		for j, w := range wraps() {
			tryFails(t, strconv.Itoa(i)+" in "+strconv.Itoa(j), of(w.build(body(s))), 5)
			tryFails(t, strconv.Itoa(i)+" in "+strconv.Itoa(j), of(w.build(body(exit(), s))), 5)
		}
	}
}

// full is a program that has each kind of part.
func full(t *testing.T) api.Program {
	t.Helper()
	p, e, _ := tree.Parse("PROGRAM q VAR b, c : INT := -3; h : BOOL := TRUE; END_VAR VAR_INPUT l : ARRAY[2..9] OF BOOL; END_VAR VAR_OUTPUT m : TON; END_VAR " +
		"IF a THEN CASE b OF 1..2, -4: WHILE c < d DO FOR e := f TO g BY h[i] DO t(x := y.z, v := 7); END_FOR; END_WHILE; 5: t(); ELSE REPEAT l[3] := NOT (m OR -n); UNTIL o END_REPEAT; END_CASE; " +
		"ELSIF TRUE THEN EXIT; ELSE RETURN; END_IF; x := FALSE; END_PROGRAM")
	if e != 0 {
		t.Fatal(e)
	}
	return p
}

// each value within a value, itself last; path says where it is.
func each(v reflect.Value, path string, do func(string, reflect.Value)) {
	switch v.Kind() {
	case reflect.Struct:
		for i := range v.NumField() {
			each(v.Field(i), path+"."+v.Type().Field(i).Name, do)
		}
	case reflect.Slice:
		for i := range v.Len() {
			each(v.Index(i), path+"["+strconv.Itoa(i)+"]", do)
		}
	}
	do(path, v)
}

// others are values that a part may be changed to.
func others(v reflect.Value) []any {
	switch v.Interface().(type) {
	case string:
		return []any{"", "a", "IF", "TRUE", "a b", "a ", "1", "abcdefghijklmnop", "abcdefghijklmnopq", "TON", "a;", "é", v.String() + "\n"}
	case bool:
		return []any{true, false}
	case int:
		var all []any
		for n := -2; n < 34; n++ {
			all = append(all, n)
		}
		return append(all, math.MaxInt, math.MinInt, int(v.Int())+1<<32, int(v.Int())-1<<32, ^int(v.Int()))
	case int64:
		return []any{int64(0), int64(1), int64(2), int64(3), int64(8), int64(9), int64(10), int64(255), int64(256), int64(-1), int64(-3), int64(math.MaxInt64), int64(math.MinInt64), int64(math.MinInt64 + 1)}
	case api.Expr:
		return []any{api.Expr{}, name("a"), num(3), num(-3), yes(), index("l", num(1)), field("t", "f"), neg(name("a")), not(yes()), two(num(1), 8, num(2)), api.Expr{Op: 3, Name: "a", Sub: list(num(1))}, api.Expr{N: 1}}
	case api.Stmt:
		all := []any{api.Stmt{}, exit(), giveBack(), call("t", nil), assign(name("a"), num(1))}
		for _, w := range wraps() {
			all = append(all, w.build(nil), w.build(body(exit())))
		}
		return all
	case []api.Expr:
		return lists(v, name("a"), num(-1), api.Expr{})
	case []api.Stmt:
		return lists(v, exit(), api.Stmt{})
	case [][]api.Stmt:
		return lists(v, []api.Stmt{}, body(exit()), nil, body(api.Stmt{}))
	case []string:
		return lists(v, "x", "", "IF")
	case []int64:
		return lists[int64](v, 1, -5, math.MinInt64)
	case [][]int64:
		return lists(v, []int64{3, 3}, []int64{-1, 9}, nil, []int64{1})
	case []api.Var:
		return lists(v, api.Var{Name: "a", Type: 1}, api.Var{}, api.Var{Name: "b", Type: 11})
	}
	return nil
}

// lists like one, but for one item more, two more, less, none, and the first one another.
func lists[T any](v reflect.Value, items ...T) []any {
	was := v.Interface().([]T)
	all := []any{[]T(nil), []T{}}
	for _, item := range items {
		more := append(append([]T{}, was...), item)
		all = append(all, more, append(more, item), append([]T{item}, was...))
		if len(was) > 0 {
			all = append(all, append([]T{item}, was[1:]...), was[1:], was[:len(was)-1])
		}
	}
	return all
}

// P19.1: each single part of a program, another way: it is shown just if it is still one.
func TestChangedPrograms(t *testing.T) {
	p := full(t)
	right, wrong, paths := 0, 0, 0
	each(reflect.ValueOf(&p).Elem(), "p", func(path string, v reflect.Value) {
		kept := reflect.ValueOf(v.Interface())
		for _, other := range others(v) {
			v.Set(reflect.ValueOf(other))
			if tryForm(t, path, p) {
				right++
			} else {
				wrong++
			}
		}
		paths++
		v.Set(kept)
	})
	if !reflect.DeepEqual(p, full(t)) || right < 3000 || wrong < 5000 {
		t.Error(right, wrong, paths)
	}
}
