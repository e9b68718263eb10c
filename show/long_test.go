package show

import (
	"slices"
	"strings"
	"testing"

	"servitor/api"
)

// tryLong: a text of at most 16384 bytes is shown, a longer one isn't; it tells which.
func tryLong(t *testing.T, p api.Program) int {
	t.Helper()
	want := textOf(p)
	if len(want) <= 16384 {
		tryText(t, p, want)
	} else {
		tryFails(t, "long", p, 13)
	}
	return len(want)
}

// sixteen programs, which are longer by one byte each.
func sixteen(p api.Program, do func(api.Program)) {
	for n := 1; n <= 16; n++ {
		p.Name = strings.Repeat("n", n)
		do(p)
	}
}

// P19.1: texts of just as many bytes as there may be, and of one more.
func TestLongest(t *testing.T) {
	p := of()
	for range (16384 - 22) / 6 {
		p.Body = append(p.Body, exit())
	}
	if text, e := Show(p); e != 0 || len(text) != 16384 {
		t.Error(e, len(text))
	}
	p.Name = "pp"
	if text, e := Show(p); e != 13 || text != "" {
		t.Error(e, len(text))
	}
}

// tryDeepLong is tryLong of a program that is deeper than what is read.
func tryDeepLong(t *testing.T, p api.Program) int {
	t.Helper()
	want := textOf(p)
	text, e := Show(p)
	if len(want) <= 16384 && (e != 0 || text != want) || len(want) > 16384 && (e != 13 || text != "") {
		t.Errorf("%d bytes: %d, %d bytes", len(want), e, len(text))
	}
	return len(want)
}

// aroundMost tries the programs whose text is about as long as it may be, of as many items as go into it.
func aroundMost(t *testing.T, build func(int) api.Program, try func(*testing.T, api.Program) int) {
	t.Helper()
	few, many := 0, 8192
	for many-few > 1 {
		n := (few + many) / 2
		if len(textOf(build(n))) <= 16384 {
			few = n
		} else {
			many = n
		}
	}
	seen := map[int]bool{}
	for _, n := range []int{few - 1, few, many} {
		sixteen(build(n), func(p api.Program) { seen[try(t, p)] = true })
	}
	if !seen[16384] || !seen[16385] {
		t.Error(few, seen)
	}
}

// P19.1: long texts by statements one behind the other, and within one another.
func TestLongBodies(t *testing.T) {
	a := name("a")
	for _, s := range []api.Stmt{exit(), giveBack(), assign(a, num(1234567)), call("t", nil), call("t", []string{"x"}, a)} {
		aroundMost(t, func(n int) api.Program { return of(slices.Repeat(body(s), n)...) }, tryLong)
	}
	for _, w := range wraps() {
		s := exit()
		for range 60 {
			s = w.build(body(s))
		}
		aroundMost(t, func(n int) api.Program { return of(append(slices.Repeat(body(exit()), n), s)...) }, tryDeepLong)
	}
}

// P19.1: long lists within one statement.
func TestLongLists(t *testing.T) {
	a := name("a")
	for _, build := range []func(int) api.Stmt{
		func(n int) api.Stmt {
			return call("t", slices.Repeat([]string{"x"}, n), slices.Repeat(list(a), n)...)
		},
		func(n int) api.Stmt { return cases(a, [][]int64{slices.Repeat([]int64{7, 7}, n+1)}, nil) },
		func(n int) api.Stmt {
			return cases(a, slices.Repeat([][]int64{{1, 1}}, n), slices.Repeat([][]api.Stmt{nil}, n)...)
		},
		func(n int) api.Stmt {
			return choice(slices.Repeat(list(a), n+1), slices.Repeat([][]api.Stmt{nil}, n+1)...)
		},
	} {
		aroundMost(t, func(n int) api.Program { return of(build(n)) }, tryLong)
	}
}

// P19.1: a long sum, whose text is deeper than what is read.
func TestLongSum(t *testing.T) {
	sum := name("a")
	many := 0
	for {
		sum = two(sum, 8, num(1))
		many++
		long := 10 + 5 + 6*many + 1 + 2 + 12
		if long < 16360 {
			continue
		}
		sixteen(of(assign(name("a"), sum)), func(p api.Program) {
			want := "PROGRAM " + p.Name + "\na := " + strings.Repeat("(", many) + "a" + strings.Repeat(" + 1)", many) + ";\nEND_PROGRAM\n"
			text, e := Show(p)
			if len(want) <= 16384 && (e != 0 || text != want) || len(want) > 16384 && (e != 13 || text != "") {
				t.Error(len(want), e, len(text))
			}
		})
		if long > 16390 {
			return
		}
	}
}

// P19.1: much more than there may be.
func TestMuchTooLong(t *testing.T) {
	p := of()
	for range 1 << 18 {
		p.Body = append(p.Body, assign(name("a"), num(1)))
	}
	tryFails(t, "many", p, 13)
	x := name("a")
	s := exit()
	for range 1 << 16 {
		x = neg(x)
		s = while(name("a"), s)
	}
	tryFails(t, "deep expression", of(assign(name("a"), x)), 13)
	tryFails(t, "deep statement", of(s), 13)
	tryFails(t, "both", of(assign(name("a"), x), s), 13)
}

// P19.1: of a program that is none and too long as well ErrForm is told, as it is named first.
func TestFormAheadOfLong(t *testing.T) {
	long := of()
	for range 3000 {
		long.Body = append(long.Body, exit())
	}
	tryFails(t, "long", long, 13)
	for _, s := range []api.Stmt{{}, {Op: 7, Name: "a"}, assign(name("a"), num(-1)), while(name("IF")), while(name("a"), api.Stmt{})} {
		for _, at := range []int{0, 1, 1500, 2998, 2999} {
			p := of(append(body(), long.Body...)...)
			p.Body[at] = s
			tryFails(t, "one wrong", p, 5)
		}
		tryFails(t, "last wrong", of(append(append(body(), long.Body...), s)...), 5)
	}
	named := long
	named.Name = "1"
	tryFails(t, "name", named, 5)
	wrong := long
	wrong.Vars = []api.Var{{Name: "a"}}
	tryFails(t, "variable", wrong, 5)
	many := long
	many.Vars = make([]api.Var, 65)
	for i := range many.Vars {
		many.Vars[i] = api.Var{Name: "a", Type: 1}
	}
	tryFails(t, "variables", many, 5)
	many.Vars = many.Vars[:64]
	tryFails(t, "variables", many, 13)
	x := num(-1)
	for range 1 << 16 {
		x = neg(x)
	}
	tryFails(t, "deep", of(assign(name("a"), x)), 5)
}
